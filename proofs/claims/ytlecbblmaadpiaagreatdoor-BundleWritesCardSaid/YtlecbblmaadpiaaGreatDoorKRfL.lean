import Derived.Test.YtlecbblmaadpiaaGreatDoorKBlkW3
import Derived.Test.YtlecbblmaadpiaaGreatDoorKBunU
import Derived.Test.YtlecbblmaadpiaaGreatDoorKRfJ
import Derived.Test.YtlecbblmaadpiaaGreatDoorKRfM
namespace Go.Proofs.YtlecbblmaadpiaaGreatDoor
set_option maxRecDepth 100000
set_option maxHeartbeats 16000000
open Go.RowKit
open Go.Lib (hid)
theorem pushB {B:Nat} {W0 w1 w2:World} (h:Below B W0 w1) (hB:B≤W0.heap.size) (h2:Below w1.heap.size w1 w2):Below B W0 w2 :=
 h.trans (h2.mono (Nat.le_trans hB h.size))
theorem take_app_right (a b:List UInt8) (N:Nat) (h:b.length=N):(a++b).take ((a++b).length - N)=a:=by
 rw [List.length_append,h,Nat.add_sub_cancel,List.take_left]
theorem itmB_par (b:Blk) (s:List UInt8):par (itmB b s)≤1000000∧hgt (itmB b s)≤1001:=by
 unfold itmB partsB
 by_cases h0:b.crc=0
 ·
  simp only [if_pos h0]
  simp [par,pars,hgt,hgts]
 ·
  simp only [if_neg h0]
  simp [par,pars,hgt,hgts]
theorem rsealedB_any (t n f C g:Nat) (d:List UInt8) (W:World) (hC:C≤2) (hd:d.length≤4096) (hg:g<W.heap.size) (h:RdIs W W.heap.size g 0 (partsB ⟨t,n,f,(C:Int),d⟩)) :
  Calls Tryz.prog 100 #[.slice (some ⟨g,0,none⟩) 5 5,.int .i64 (C:Int)] W (Gives (blkW ⟨t,n,f,(C:Int),d⟩) W):=by
 have key:∀ N:Nat,((C=1∧N=2)∨(C=2∧N=4))→Calls Tryz.prog 100 #[.slice (some ⟨g,0,none⟩) 5 5,.int .i64 (C:Int)] W (Gives (blkW ⟨t,n,f,(C:Int),d⟩) W):=fun N hN=>by
  have hs:sumN (C:Int)=N:=by rcases hN with ⟨rfl,rfl⟩|⟨rfl,rfl⟩ <;> rfl
  have hc:(0:Int)≤(C:Int)∧(C:Int)≤2:=by omega
  have hne:¬ (C:Int)=0:=by omega
  have hbl:=body_len ⟨t,n,f,(C:Int),d⟩
  have hwi:=wri_itm ⟨t,n,f,(C:Int),d⟩ (List.replicate N 0) (by rw [List.length_replicate];exact hs.symm) hc
  have hpp:=itmB_par ⟨t,n,f,(C:Int),d⟩ (List.replicate N 0)
  have hF:=itm_fits ⟨t,n,f,(C:Int),d⟩ (List.replicate N 0)
  have hLW:(wri (itmB ⟨t,n,f,(C:Int),d⟩ (List.replicate N 0))).length≤1000000∧N≤(wri (itmB ⟨t,n,f,(C:Int),d⟩ (List.replicate N 0))).length:=by
   rw [hwi,List.length_append,List.length_replicate]
   simp only at hbl
   omega
  have hQ:(wri (itmB ⟨t,n,f,(C:Int),d⟩ (List.replicate N 0))).take ((wri (itmB ⟨t,n,f,(C:Int),d⟩ (List.replicate N 0))).length - N)++crcBytes (C:Int) (wri (itmB ⟨t,n,f,(C:Int),d⟩ (List.replicate N 0)))=blkW ⟨t,n,f,(C:Int),d⟩:=by
   rw [hwi,take_app_right _ _ N (by simp)]
   unfold blkW sumB nulls
   rw [hs]
  have hE:itmB ⟨t,n,f,(C:Int),d⟩ (List.replicate N 0)=.mk 4 0 [] (partsB ⟨t,n,f,(C:Int),d⟩++[.mk 2 0 (List.replicate N 0) []]):=by unfold itmB;rw [if_neg hne]
  rw [hE] at hpp hF hLW hQ
  have:=rsealedM_any g 5 5 (partsB ⟨t,n,f,(C:Int),d⟩) (C:Int) N W (by omega) hg h rfl (by decide) (by decide) (by decide) hF hpp.1 hpp.2 hLW.1 hLW.2
  rw [hQ] at this
  exact this
 have hc:C=0∨C=1∨C=2:=by omega
 rcases hc with rfl|h1|h1
 ·
  exact rsealed_0 t n f g d W hd hg h
 ·
  exact key 2 (.inl ⟨h1,rfl⟩)
 ·
  exact key 4 (.inr ⟨h1,rfl⟩)
theorem rencodeB_ok (t n f C:Nat) (A:Option Addr) (nd cd B:Nat) (d:List UInt8) (w:World) (ht:t<18446744073709551616) (hn:n<18446744073709551616) (hf:f<18446744073709551616) (hB:B≤w.heap.size) (h:Rd w B A nd d) (hC:C≤2) (hok:blkOk ⟨t,n,f,(C:Int),d⟩=true) :
  Calls Tryz.prog 82 #[blkV t n f (C:Int) A nd cd] w (fun e w'=>Below w.heap.size w w'∧∃ (A':Option Addr) (n' c':Nat),e=.returned (.tuple #[.slice A' n' c',.int .i64 (if blkOk ⟨t,n,f,(C:Int),d⟩=true then 0 else 50)])∧n'≤c'∧Rd w' w'.heap.size A' n' (if blkOk ⟨t,n,f,(C:Int),d⟩=true then blkW ⟨t,n,f,(C:Int),d⟩ else [])):=by
 have hd:d.length≤4096:=(blkOk_iff.1 hok).2.2.2.2
 have hnd:nd≤140737488355328:=by have:=h.1;omega
 have HB:=hid ((Below.refl w.heap.size w).alloc nlr (.cells #[.int .u64 (t:Int),.int .u64 (n:Int),.int .u64 (f:Int),.int .i64 (C:Int),.slice A nd cd] 48))
 have G0:=hid (fun (W:World) (hb:Below (w.heap.size+1) (w.alloc (.cells #[.int .u64 (t:Int),.int .u64 (n:Int),.int .u64 (f:Int),.int .i64 (C:Int),.slice A nd cd] 48)) W)=>box5 (g:=w.heap.size) rfl hb)
 have HW0:Hid (Below (w.heap.size+1) (w.alloc (.cells #[.int .u64 (t:Int),.int .u64 (n:Int),.int .u64 (f:Int),.int .i64 (C:Int),.slice A nd cd] 48)) (w.alloc (.cells #[.int .u64 (t:Int),.int .u64 (n:Int),.int .u64 (f:Int),.int .i64 (C:Int),.slice A nd cd] 48))):=Below.refl _ _
 have HS:Hid ((w.alloc (.cells #[.int .u64 (t:Int),.int .u64 (n:Int),.int .u64 (f:Int),.int .i64 (C:Int),.slice A nd cd] 48)).heap.size=w.heap.size+1):=by show _=_;simp
 have C1:=hid (fun W=>rcheckB_any t n f (C:Int) A nd cd d W h.1)
 have C2:=hid (fun (W:World) (hb:Below w.heap.size w W)=>ritems_any t n f C A nd cd B d W ht hn hf hC (Nat.le_trans hB hb.size) (h.below (hb.mono hB)) hnd)
 have CS:=hid (fun (W:World) (g:Nat) (hg:g<W.heap.size) (h:RdIs W W.heap.size g 0 (partsB ⟨t,n,f,(C:Int),d⟩))=>rsealedB_any t n f C g d W hC hd hg h)
 rw [hok] at C1
 rw [if_pos hok,if_pos hok]
 generalize blkW ⟨t,n,f,(C:Int),d⟩=WB at *
 clear h hB hd hnd ht hn hf hok hC
 unfold blkV at *
 go_enter Tryz.func82,Tryz.ntmps82
 go_wp2_with fail
 refine (C1.out _).mono ?_
 rintro e w1 ⟨rfl,hb⟩
 have X1:=hid (pushB HW0.out (Nat.le_of_eq HS.out.symm) hb)
 have B1:=hid (HB.out.trans (X1.out.mono (Nat.le_succ _)))
 clear hb
 obtain ⟨x0,x1,x2,x3,x4⟩:=G0.out _ X1.out
 go_wp2_with fail
 refine wp_region_held_drew (S:=fun W=>Below w1.heap.size w1 W) (by kernel_rfl) Below.drew_ (fun hHeld=>?_)
 refine takeSl (i:=0) (v:=?v0) rfl (by kernel_rfl) (by kernel_rfl) (by kernel_rfl) (fun _ _ _ h=>h) (by rfl) ?hy0 (by assumption) ?rest0
 case hy0=>(intro W hSw;obtain ⟨x0,x1,x2,x3,x4⟩:=G0.out _ (X1.out.trans (hSw.mono (Nat.le_trans (Nat.le_of_eq HS.out.symm) X1.out.size)));go_simp;try with_reducible rfl)
 try simp only [Act.put]
 try simp only [List.setIfInBounds_toArray]
 try simp only [List.set_cons_succ]
 try simp only [List.set_cons_zero]
 refine takeSl (i:=2) (v:=?v2) rfl (by kernel_rfl) (by kernel_rfl) (by kernel_rfl) (fun _ _ _ h=>h) (by rfl) ?hy2 (by assumption) ?rest2
 case hy2=>(intro W hSw;go_simp;try with_reducible rfl)
 try simp only [Act.put]
 try simp only [List.setIfInBounds_toArray]
 try simp only [List.set_cons_succ]
 try simp only [List.set_cons_zero]
 refine takeSl (i:=3) (v:=?v3) rfl (by kernel_rfl) (by kernel_rfl) (by kernel_rfl) (fun _ _ _ h=>h) (by rfl) ?hy3 (by assumption) ?rest3
 case hy3=>(intro W hSw;obtain ⟨x0,x1,x2,x3,x4⟩:=G0.out _ (X1.out.trans (hSw.mono (Nat.le_trans (Nat.le_of_eq HS.out.symm) X1.out.size)));go_simp;try with_reducible rfl)
 try simp only [Act.put]
 try simp only [List.setIfInBounds_toArray]
 try simp only [List.set_cons_succ]
 try simp only [List.set_cons_zero]
 have D1:Hid (Below w.heap.size w w1.drew):=B1.out.trans (hHeld.mono B1.out.size)
 have HH:=hid hHeld
 clear hHeld x0 x1 x2 x3 x4
 obtain ⟨wd,hwd⟩:∃ wd,wd=w1.drew:=⟨_,rfl⟩
 rw [← hwd] at D1 HH
 rw [← hwd]
 clear hwd
 refine wpAnyH_ready (rs:=[1]) (by kernel_rfl) (by simp) ?_
 refine AllReadyH.cons rfl (fun K hK=>?_) AllReadyH.nil
 rw [if_pos (by rfl)]
 go_simp
 refine (C2.out _ D1.out).mono ?_
 rintro e w2 ⟨g,rfl,hg,hit,hb⟩
 have B2:=hid (D1.out.trans (hb.mono D1.out.size))
 have H2:=hid (HH.out.trans (hb.mono HH.out.size))
 have C3:=hid (CS.out _ g hg hit)
 clear hb hg hit
 go_simp
 refine hK.out _ _ H2.out (fun hHeld=>?_)
 try simp only [Act.put]
 try simp only [List.setIfInBounds_toArray]
 try simp only [List.set_cons_succ]
 try simp only [List.set_cons_zero]
 clear hK K hHeld
 refine wpAnyH_ready (rs:=[4]) (by kernel_rfl) (by simp) ?_
 refine AllReadyH.cons rfl (fun K hK=>?_) AllReadyH.nil
 rw [if_pos (by rfl)]
 go_simp
 refine C3.out.mono ?_
 rintro e w3 ⟨A3,n3,c3,rfl,hr3,hc3,hb⟩
 have B3:=hid (B2.out.trans (hb.mono B2.out.size))
 have HR:=hid (And.intro hr3 hc3)
 have H3:=H2.out.trans (hb.mono H2.out.size)
 clear hb hr3 hc3
 go_simp
 refine hK.out _ _ H3 (fun hHeld=>?_)
 try simp only [Act.put]
 try simp only [List.setIfInBounds_toArray]
 try simp only [List.set_cons_succ]
 try simp only [List.set_cons_zero]
 clear hK K
 refine takeSl (i:=5) (v:=?v5) rfl (by kernel_rfl) (by kernel_rfl) (by kernel_rfl) (fun _ _ _ h=>h) (by rfl) ?hy5 (by assumption) ?rest5
 case hy5=>(intro W hSw;go_simp;try with_reducible rfl)
 try simp only [Act.put]
 try simp only [List.setIfInBounds_toArray]
 try simp only [List.set_cons_succ]
 try simp only [List.set_cons_zero]
 refine takeSl (i:=6) (v:=?v6) rfl (by kernel_rfl) (by kernel_rfl) (by kernel_rfl) (fun _ _ _ h=>h) (by rfl) ?hy6 (by assumption) ?rest6
 case hy6=>(intro W hSw;go_simp;try with_reducible rfl)
 try simp only [Act.put]
 try simp only [List.setIfInBounds_toArray]
 try simp only [List.set_cons_succ]
 try simp only [List.set_cons_zero]
 refine wpAnyH_done (by kernel_rfl) ?_ _
 go_wp2_with fail
 go_ret2
 exact ⟨B3.out,_,_,_,rfl,HR.out.2,HR.out.1⟩
theorem rencodeB_no (t n f:Nat) (c:Int) (A:Option Addr) (nd cd:Nat) (d:List UInt8) (w:World) (hd:d.length=nd) (hok:blkOk ⟨t,n,f,c,d⟩=false) :
  Calls Tryz.prog 82 #[blkV t n f c A nd cd] w (fun e w'=>Below w.heap.size w w'∧∃ (A':Option Addr) (n' c':Nat),e=.returned (.tuple #[.slice A' n' c',.int .i64 (if blkOk ⟨t,n,f,c,d⟩=true then 0 else 50)])∧n'≤c'∧Rd w' w'.heap.size A' n' (if blkOk ⟨t,n,f,c,d⟩=true then blkW ⟨t,n,f,c,d⟩ else [])):=by
 have HB:=hid ((Below.refl w.heap.size w).alloc nlr (.cells #[.int .u64 (t:Int),.int .u64 (n:Int),.int .u64 (f:Int),.int .i64 c,.slice A nd cd] 48))
 have C1:=hid (fun W=>rcheckB_any t n f c A nd cd d W hd)
 rw [hok] at C1
 rw [hok,if_neg (by decide),if_neg (by decide)]
 clear hok hd
 unfold blkV at *
 go_enter Tryz.func82,Tryz.ntmps82
 go_wp2_with fail
 refine (C1.out _).mono ?_
 rintro e w1 ⟨rfl,hb⟩
 have B1:=hid (HB.out.trans (hb.mono HB.out.size))
 clear hb
 go_wp2_with fail
 go_ret2
 exact ⟨B1.out,_,_,_,rfl,Nat.le_refl _,Rd.nil_⟩
theorem rencodeB_any (b:Blk) (A:Option Addr) (nd cd B:Nat) (w:World) (hb:Bd b) (hB:B≤w.heap.size) (h:Rd w B A nd b.dat) :
  Calls Tryz.prog 82 #[blkV b.typ b.num b.flg b.crc A nd cd] w (fun e w'=>Below w.heap.size w w'∧∃ (A':Option Addr) (n' c':Nat),e=.returned (.tuple #[.slice A' n' c',.int .i64 (if blkOk b=true then 0 else 50)])∧n'≤c'∧Rd w' w'.heap.size A' n' (if blkOk b=true then blkW b else [])):=by
 obtain ⟨t,n,f,c,d⟩:=b
 cases hok:blkOk ⟨t,n,f,c,d⟩ with
 | false =>
  have:=rencodeB_no t n f c A nd cd d w h.1 hok
  rw [hok] at this
  exact this
 | true =>
  obtain ⟨C,rfl⟩:∃ C:Nat,c=(C:Int):=⟨c.toNat,by have:=(blkOk_iff.1 hok).2.2.2.1;simp only at this;omega⟩
  have hC:C≤2:=by have:=(blkOk_iff.1 hok).2.2.2.1;simp only at this;omega
  have:=rencodeB_ok t n f C A nd cd B d w hb.1 hb.2.1 hb.2.2 hB h hC hok
  rw [hok] at this
  exact this
theorem rsealedZ_any (g m cap:Nat) (its:List Itm) (w:World) (hg:g<w.heap.size) (h:RdIs w w.heap.size g 0 its) (hm:its.length=m) (h0:0<m) (hmx:m≤1000) (hcap:m≤cap)
  (hF:Fits (.mk 4 0 [] its)) (hp:par (.mk 4 0 [] its)≤1000000) (hh:hgt (.mk 4 0 [] its)≤1001) (hlen:(wri (.mk 4 0 [] its)).length≤1000000) :
  Calls Tryz.prog 100 #[.slice (some ⟨g,0,none⟩) m cap,.int .i64 0] w (Gives (wri (.mk 4 0 [] its)) w):=by
 have C1:=hid (rarray_any g 0 m cap w.heap.size its w nlr hg h hm h0 (by omega) hcap)
 have C2:=hid (fun v W (hr:RdI W W.heap.size v (.mk 4 0 [] its))=>rencode_any (.mk 4 0 [] its) v W W.heap.size hp hh (fun _=>Nat.le_trans hlen (by decide)) nlr hr)
 rw [enc_ok hF] at C2
 clear hF hp hh hlen h hg hm h0 hmx hcap
 generalize wri (.mk 4 0 [] its)=WB at *
 generalize Itm.mk 4 0 [] its=X at *
 go_enter Tryz.func100,Tryz.ntmps100
 go_wp2_with fail
 refine C1.out.mono ?_
 rintro e w1 ⟨v1,rfl,hv1,hb1⟩
 obtain ⟨k1,n1,A1,nd1,cd1,AL1,nl1,cl1,rfl⟩:=hv1.form
 have B1:=hid hb1
 have V1:=hid hv1
 clear hb1 hv1 C1
 go_wp2_with fail
 refine (C2.out _ _ V1.out).mono ?_
 rintro e w2 ⟨v2,rfl,ho2,hb2⟩
 obtain ⟨A2,c2,rfl,hc2,-,hr2⟩:=ho2.rd
 have HR2:=hid (And.intro hc2 hr2)
 have B2:=hid (B1.out.trans (hb2.mono B1.out.size))
 clear hb2 ho2 hc2 hr2
 go_wp2_with fail
 go_ret
 exact ⟨_,_,_,rfl,HR2.out.2,HR2.out.1,B2.out⟩
theorem itemE_hgt (e:Epd):hgt (itemE e)≤3:=by
 unfold itemE
 split
 ·
  simp [hgt,hgts]
 ·
  split <;> simp [hgt,hgts]
theorem itmP_hgt (b:Bun) (s:List UInt8):hgt (itmP b s)≤1001:=by
 have h1:=itemE_hgt b.dst
 have h2:=itemE_hgt b.src
 have h3:=itemE_hgt b.rep
 unfold itmP partsP
 by_cases h0:b.crc=0
 ·
  simp only [if_pos h0]
  simp [hgt,hgts]
  omega
 ·
  simp only [if_neg h0]
  simp [hgt,hgts]
  omega
theorem itmP_par {b:Bun} (s:List UInt8) (h:Wr b):par (itmP b s)≤1000000:=by have:=(itmP_fits s h).2.2;omega
theorem itmP_0 {b:Bun} (h0:b.crc=0):itmP b []=.mk 4 0 [] (partsP b):=by unfold itmP;rw [if_pos h0,List.append_nil]
theorem itmP_1 {b:Bun} (h0:b.crc≠0) (s:List UInt8):itmP b s=.mk 4 0 [] (partsP b++[.mk 2 0 s []]):=by unfold itmP;rw [if_neg h0]
theorem rsealedP_any (b:Bun) (g:Nat) (w:World) (hw:Wr b) (hg:g<w.heap.size) (h:RdIs w w.heap.size g 0 (partsP b)) :
  Calls Tryz.prog 100 #[.slice (some ⟨g,0,none⟩) 8 8,.int .i64 b.crc] w (Gives (primW b) w):=by
 have hbl:=bodyP_len hw
 have hc:b.crc=0∨b.crc=1∨b.crc=2:=by have:=hw.1;omega
 rcases hc with h0|h0
 ·
  have e1:(sumP b)=[]:=List.eq_nil_of_length_eq_zero (by rw [sumP_len,h0];rfl)
  have e2:wri (itmP b [])=primW b:=by rw [wri_itmP b [] (by rw [h0];rfl)];unfold primW;rw [e1]
  have hF:=itmP_fits [] hw
  have hp:=itmP_par [] hw
  have hh:=itmP_hgt b []
  have hl:(wri (itmP b [])).length≤1000000:=by rw [wri_itmP b [] (by rw [h0];rfl),List.append_nil];omega
  rw [itmP_0 h0] at e2 hF hp hh hl
  rw [h0,← e2]
  exact rsealedZ_any g 8 8 (partsP b) w hg h rfl (by decide) (by decide) nlr hF hp hh hl
 ·
  have key:∀ N:Nat,((b.crc=1∧N=2)∨(b.crc=2∧N=4))→Calls Tryz.prog 100 #[.slice (some ⟨g,0,none⟩) 8 8,.int .i64 b.crc] w (Gives (primW b) w):=fun N hN=>by
   have hs:sumN b.crc=N:=by rcases hN with ⟨h1,rfl⟩|⟨h1,rfl⟩ <;> (rw [h1];rfl)
   have hne:b.crc≠0:=by omega
   have hwi:=wri_itmP b (List.replicate N 0) (by rw [List.length_replicate,hs])
   have hF:=itmP_fits (List.replicate N 0) hw
   have hp:=itmP_par (List.replicate N 0) hw
   have hh:=itmP_hgt b (List.replicate N 0)
   have hl:(wri (itmP b (List.replicate N 0))).length≤1000000∧N≤(wri (itmP b (List.replicate N 0))).length:=by
    rw [hwi,List.length_append,List.length_replicate]
    omega
   have hQ:(wri (itmP b (List.replicate N 0))).take ((wri (itmP b (List.replicate N 0))).length - N)++crcBytes b.crc (wri (itmP b (List.replicate N 0)))=primW b:=by
    rw [hwi,take_app_right _ _ N (by simp)]
    unfold primW sumP nullsP
    rw [hs]
   rw [itmP_1 hne] at hF hp hh hl hQ
   have:=rsealedM_any g 8 8 (partsP b) b.crc N w hN hg h rfl (by decide) (by decide) (by decide) hF hp hh hl.1 hl.2
   rw [hQ] at this
   exact this
  rcases h0 with h0|h0
  ·
   exact key 2 (.inl ⟨h0,rfl⟩)
  ·
   exact key 4 (.inr ⟨h0,rfl⟩)
theorem rprimary_any (h:BH) (l:List Blk) (A:Option Addr) (n c B:Nat) (w:World) (hd:h.Bd) (hr:RdL w B A n l) (hB:B≤w.heap.size) :
  Calls Tryz.prog 50 #[bunV h A n c] w fun e w'=>Below w.heap.size w w'∧∃ (A':Option Addr) (n' c':Nat),e=.returned (.tuple #[.slice A' n' c',.int .i64 (cauU (h.bun l))])∧n'≤c'∧Rd w' w'.heap.size A' n' (if cauU (h.bun l)=0 then primW (h.bun l) else []):=by
 have HB0:=hid ((Below.refl w.heap.size w).alloc nlr (.cells #[.int .u64 (h.flg:Int),.int .i64 h.crc,.int .i64 h.dsc,.string h.dnm,.int .u64 (h.dn:Int),.int .u64 (h.dv:Int),.int .i64 h.ssc,.string h.snm,.int .u64 (h.sn:Int),.int .u64 (h.sv:Int),.int .i64 h.rsc,.string h.rnm,.int .u64 (h.rn:Int),.int .u64 (h.rv:Int),.int .u64 (h.tim:Int),.int .u64 (h.seq:Int),.int .u64 (h.lif:Int),.slice A n c] 73))
 have HW0:Hid (Below (w.heap.size+1) (w.alloc (.cells #[.int .u64 (h.flg:Int),.int .i64 h.crc,.int .i64 h.dsc,.string h.dnm,.int .u64 (h.dn:Int),.int .u64 (h.dv:Int),.int .i64 h.ssc,.string h.snm,.int .u64 (h.sn:Int),.int .u64 (h.sv:Int),.int .i64 h.rsc,.string h.rnm,.int .u64 (h.rn:Int),.int .u64 (h.rv:Int),.int .u64 (h.tim:Int),.int .u64 (h.seq:Int),.int .u64 (h.lif:Int),.slice A n c] 73)) (w.alloc (.cells #[.int .u64 (h.flg:Int),.int .i64 h.crc,.int .i64 h.dsc,.string h.dnm,.int .u64 (h.dn:Int),.int .u64 (h.dv:Int),.int .i64 h.ssc,.string h.snm,.int .u64 (h.sn:Int),.int .u64 (h.sv:Int),.int .i64 h.rsc,.string h.rnm,.int .u64 (h.rn:Int),.int .u64 (h.rv:Int),.int .u64 (h.tim:Int),.int .u64 (h.seq:Int),.int .u64 (h.lif:Int),.slice A n c] 73))):=Below.refl _ _
 have HS0:Hid ((w.alloc (.cells #[.int .u64 (h.flg:Int),.int .i64 h.crc,.int .i64 h.dsc,.string h.dnm,.int .u64 (h.dn:Int),.int .u64 (h.dv:Int),.int .i64 h.ssc,.string h.snm,.int .u64 (h.sn:Int),.int .u64 (h.sv:Int),.int .i64 h.rsc,.string h.rnm,.int .u64 (h.rn:Int),.int .u64 (h.rv:Int),.int .u64 (h.tim:Int),.int .u64 (h.seq:Int),.int .u64 (h.lif:Int),.slice A n c] 73)).heap.size=w.heap.size+1):=by show _=_;simp
 have HX:=hid (fun (W:World) (hb:Below (w.heap.size+1) (w.alloc (.cells #[.int .u64 (h.flg:Int),.int .i64 h.crc,.int .i64 h.dsc,.string h.dnm,.int .u64 (h.dn:Int),.int .u64 (h.dv:Int),.int .i64 h.ssc,.string h.snm,.int .u64 (h.sn:Int),.int .u64 (h.sv:Int),.int .i64 h.rsc,.string h.rnm,.int .u64 (h.rn:Int),.int .u64 (h.rv:Int),.int .u64 (h.tim:Int),.int .u64 (h.seq:Int),.int .u64 (h.lif:Int),.slice A n c] 73)) W)=>row_of_box (w:=w) rfl hb)
 have C1:=hid (rcheckU_any h l A n c B (w.alloc (.cells #[.int .u64 (h.flg:Int),.int .i64 h.crc,.int .i64 h.dsc,.string h.dnm,.int .u64 (h.dn:Int),.int .u64 (h.dv:Int),.int .i64 h.ssc,.string h.snm,.int .u64 (h.sn:Int),.int .u64 (h.sv:Int),.int .i64 h.rsc,.string h.rnm,.int .u64 (h.rn:Int),.int .u64 (h.rv:Int),.int .u64 (h.tim:Int),.int .u64 (h.seq:Int),.int .u64 (h.lif:Int),.slice A n c] 73)) hd (hr.below (HB0.out.mono hB)) (Nat.le_trans hB HB0.out.size))
 by_cases hz:cauU (h.bun l)=0
 case neg =>
  have HE:Hid ((if cauU (h.bun l)=0 then primW (h.bun l) else [])=([]:List UInt8)):=if_neg hz
  rw [HE.out]
  have hz1:(cauU (h.bun l) != 0)=true:=by simp [hz]
  have hz2:(cauU (h.bun l)==0)=false:=by simp [hz]
  generalize cauU (h.bun l)=z at *
  clear hr hB hd hz HE
  unfold bunV at *
  go_enter Tryz.func50,Tryz.ntmps50
  go_wp2_with (first
   | (refine wpList_ld18 rfl (.tmp 1) rfl _ rfl _ _ (HX.out _ HW0.out) rfl ?_)
   | fail)
  refine C1.out.mono ?_
  rintro e w1 ⟨rfl,hb⟩
  have B1:=hid (HB0.out.trans (hb.mono HB0.out.size))
  clear hb
  go_wp2_with fail
  go_ret2
  exact ⟨B1.out,_,_,_,rfl,Nat.le_refl _,Rd.nil_⟩
 rw [if_pos hz]
 have hwr:Wr (h.bun l):=(primOk_iff.1 (cauU_0.1 hz).2.1).1
 have C2:=hid (fun W=>ritemsU_any h l A n c W hd hwr.1 hwr.2.1 hwr.2.2.1 hwr.2.2.2)
 have C3:=hid (fun g (W:World) (hg:g<W.heap.size) (hi:RdIs W W.heap.size g 0 (partsP (h.bun l)))=>rsealedP_any (h.bun l) g W hwr hg hi)
 have hcr:(h.bun l).crc=h.crc:=rfl
 rw [hcr] at C3
 generalize primW (h.bun l)=PW at *
 generalize cauU (h.bun l)=z at *
 subst hz
 clear hr hB hd hwr hcr
 unfold bunV at *
 go_enter Tryz.func50,Tryz.ntmps50
 go_wp2_with (first
  | (refine wpList_ld18 rfl (.tmp 1) rfl _ rfl _ _ (HX.out _ HW0.out) rfl ?_)
  | fail)
 refine C1.out.mono ?_
 rintro e w1 ⟨rfl,hb⟩
 have B1:=hid (Below.push HW0.out (Nat.le_of_eq HS0.out.symm) hb)
 have T1:=hid (HB0.out.trans (B1.out.mono (Nat.le_succ _)))
 have R1:=hid (HX.out _ B1.out)
 clear hb
 go_wp2_with fail
 refine wp_region_held_drew (S:=fun W=>Below w1.heap.size w1 W) (by kernel_rfl) Below.drew_ (fun hHeld=>?_)
 have BC:=hid hHeld
 refine takeR (i:=0) rfl (by kernel_rfl) (by kernel_rfl) (by kernel_rfl) (fun _ _ _ h=>h) (by rfl) (fun W hW=>exec_ld18 rfl rfl (rowBelow R1.out hW (row_lt R1.out)) rfl) (by assumption) ?_
 try simp only [Act.put]
 try simp only [List.setIfInBounds_toArray]
 try simp only [List.set_cons_succ]
 try simp only [List.set_cons_zero]
 refine takeR (i:=2) (v:=?v2) rfl (by kernel_rfl) (by kernel_rfl) (by kernel_rfl) (fun _ _ _ h=>h) (by rfl) ?hy2 (by assumption) ?rest2
 case hy2=>(intro W hSw;go_simp;try with_reducible rfl)
 try simp only [Act.put]
 try simp only [List.setIfInBounds_toArray]
 try simp only [List.set_cons_succ]
 try simp only [List.set_cons_zero]
 refine takeR (i:=3) (v:=?v3) rfl (by kernel_rfl) (by kernel_rfl) (by kernel_rfl) (fun _ _ _ h=>h) (by rfl) ?hy3 (by assumption) ?rest3
 case hy3=>(intro W hSw;have x1:=cell_row (rowBelow R1.out hSw (row_lt R1.out)) 1 rfl;go_simp;try with_reducible rfl)
 try simp only [Act.put]
 try simp only [List.setIfInBounds_toArray]
 try simp only [List.set_cons_succ]
 try simp only [List.set_cons_zero]
 refine wpAnyH_ready (rs:=[1]) (by kernel_rfl) (by simp) ?_
 refine AllReadyH.cons rfl (fun K hK=>?_) AllReadyH.nil
 rw [if_pos (by rfl)]
 go_simp
 refine (C2.out _).mono ?_
 rintro e w2 ⟨g,rfl,hg,hit,hb⟩
 replace BC:=hid (BC.out.trans (hb.mono BC.out.size))
 have CS:=hid (C3.out g w2 hg hit)
 clear hb hg hit
 go_simp
 refine hK.out _ _ BC.out (fun hHeld=>?_)
 try simp only [Act.put]
 try simp only [List.setIfInBounds_toArray]
 try simp only [List.set_cons_succ]
 try simp only [List.set_cons_zero]
 clear hK K
 refine wpAnyH_ready (rs:=[4]) (by kernel_rfl) (by simp) ?_
 refine AllReadyH.cons rfl (fun K hK=>?_) AllReadyH.nil
 rw [if_pos (by rfl)]
 go_simp
 refine (CS.out).mono ?_
 rintro e w3 ⟨A3,n3,c3,rfl,hr3,hc3,hb⟩
 replace BC:=hid (BC.out.trans (hb.mono BC.out.size))
 have HR:=hid (And.intro hr3 hc3)
 clear hb hr3 hc3
 go_simp
 refine hK.out _ _ BC.out (fun hHeld=>?_)
 try simp only [Act.put]
 try simp only [List.setIfInBounds_toArray]
 try simp only [List.set_cons_succ]
 try simp only [List.set_cons_zero]
 clear hK K
 refine takeR (i:=5) (v:=?v5) rfl (by kernel_rfl) (by kernel_rfl) (by kernel_rfl) (fun _ _ _ h=>h) (by rfl) ?hy5 (by assumption) ?rest5
 case hy5=>(intro W hSw;go_simp;try with_reducible rfl)
 try simp only [Act.put]
 try simp only [List.setIfInBounds_toArray]
 try simp only [List.set_cons_succ]
 try simp only [List.set_cons_zero]
 refine takeR (i:=6) (v:=?v6) rfl (by kernel_rfl) (by kernel_rfl) (by kernel_rfl) (fun _ _ _ h=>h) (by rfl) ?hy6 (by assumption) ?rest6
 case hy6=>(intro W hSw;go_simp;try with_reducible rfl)
 try simp only [Act.put]
 try simp only [List.setIfInBounds_toArray]
 try simp only [List.set_cons_succ]
 try simp only [List.set_cons_zero]
 refine wpAnyH_done (by kernel_rfl) ?_ _
 go_wp2_with fail
 go_ret2
 exact ⟨T1.out.trans (BC.out.mono T1.out.size),_,_,_,rfl,HR.out.2,HR.out.1⟩
theorem rencodeU_any (h:BH) (l:List Blk) (A:Option Addr) (n c B:Nat) (w:World) (hd:h.Bd) (hr:RdL w B A n l) (hB:B≤w.heap.size) :
  Calls Tryz.prog 48 #[bunV h A n c] w fun e w'=>Below w.heap.size w w'∧∃ (A':Option Addr) (n' c':Nat),e=.returned (.tuple #[.slice A' n' c',.int .i64 (encU (h.bun l)).2])∧n'≤c'∧Rd w' w'.heap.size A' n' (encU (h.bun l)).1:=by
 have HB0:=hid ((Below.refl w.heap.size w).alloc nlr (.cells #[.int .u64 (h.flg:Int),.int .i64 h.crc,.int .i64 h.dsc,.string h.dnm,.int .u64 (h.dn:Int),.int .u64 (h.dv:Int),.int .i64 h.ssc,.string h.snm,.int .u64 (h.sn:Int),.int .u64 (h.sv:Int),.int .i64 h.rsc,.string h.rnm,.int .u64 (h.rn:Int),.int .u64 (h.rv:Int),.int .u64 (h.tim:Int),.int .u64 (h.seq:Int),.int .u64 (h.lif:Int),.slice A n c] 73))
 have HRW:=hid (fun (W:World) (hb:Below (w.heap.size+1) (w.alloc (.cells #[.int .u64 (h.flg:Int),.int .i64 h.crc,.int .i64 h.dsc,.string h.dnm,.int .u64 (h.dn:Int),.int .u64 (h.dv:Int),.int .i64 h.ssc,.string h.snm,.int .u64 (h.sn:Int),.int .u64 (h.sv:Int),.int .i64 h.rsc,.string h.rnm,.int .u64 (h.rn:Int),.int .u64 (h.rv:Int),.int .u64 (h.tim:Int),.int .u64 (h.seq:Int),.int .u64 (h.lif:Int),.slice A n c] 73)) W)=>row_of_box (w:=w) rfl hb)
 have HS0:Hid ((w.alloc (.cells #[.int .u64 (h.flg:Int),.int .i64 h.crc,.int .i64 h.dsc,.string h.dnm,.int .u64 (h.dn:Int),.int .u64 (h.dv:Int),.int .i64 h.ssc,.string h.snm,.int .u64 (h.sn:Int),.int .u64 (h.sv:Int),.int .i64 h.rsc,.string h.rnm,.int .u64 (h.rn:Int),.int .u64 (h.rv:Int),.int .u64 (h.tim:Int),.int .u64 (h.seq:Int),.int .u64 (h.lif:Int),.slice A n c] 73)).heap.size=w.heap.size+1):=by show _=_;simp
 have HW0:Hid (Below (w.heap.size+1) (w.alloc (.cells #[.int .u64 (h.flg:Int),.int .i64 h.crc,.int .i64 h.dsc,.string h.dnm,.int .u64 (h.dn:Int),.int .u64 (h.dv:Int),.int .i64 h.ssc,.string h.snm,.int .u64 (h.sn:Int),.int .u64 (h.sv:Int),.int .i64 h.rsc,.string h.rnm,.int .u64 (h.rn:Int),.int .u64 (h.rv:Int),.int .u64 (h.tim:Int),.int .u64 (h.seq:Int),.int .u64 (h.lif:Int),.slice A n c] 73)) (w.alloc (.cells #[.int .u64 (h.flg:Int),.int .i64 h.crc,.int .i64 h.dsc,.string h.dnm,.int .u64 (h.dn:Int),.int .u64 (h.dv:Int),.int .i64 h.ssc,.string h.snm,.int .u64 (h.sn:Int),.int .u64 (h.sv:Int),.int .i64 h.rsc,.string h.rnm,.int .u64 (h.rn:Int),.int .u64 (h.rv:Int),.int .u64 (h.tim:Int),.int .u64 (h.seq:Int),.int .u64 (h.lif:Int),.slice A n c] 73))):=Below.refl _ _
 have C1:=hid (rprimary_any h l A n c B (w.alloc (.cells #[.int .u64 (h.flg:Int),.int .i64 h.crc,.int .i64 h.dsc,.string h.dnm,.int .u64 (h.dn:Int),.int .u64 (h.dv:Int),.int .i64 h.ssc,.string h.snm,.int .u64 (h.sn:Int),.int .u64 (h.sv:Int),.int .i64 h.rsc,.string h.rnm,.int .u64 (h.rn:Int),.int .u64 (h.rv:Int),.int .u64 (h.tim:Int),.int .u64 (h.seq:Int),.int .u64 (h.lif:Int),.slice A n c] 73)) hd (hr.below (HB0.out.mono hB)) (Nat.le_trans hB HB0.out.size))
 have HR:=hid hr
 have hn47:=hr.2.2
 have HH:=hid hB
 have hbds:=hr.bds
 have HEN:Hid (encU (h.bun l)=if cauU (h.bun l)≠0 then ([],cauU (h.bun l)) else if 4096<(bunW (h.bun l)).length then ([],60) else (bunW (h.bun l),0)):=rfl
 clear hr hB hd
 by_cases hz:cauU (h.bun l)=0
 case neg =>
  have HE:Hid (encU (h.bun l)=([],cauU (h.bun l))):=by show _=_;rw [HEN.out,if_pos hz]
  rw [HE.out]
  have hz1:(cauU (h.bun l) != 0)=true:=by simp [hz]
  have hz2:(cauU (h.bun l)==0)=false:=by simp [hz]
  rw [if_neg hz] at C1
  clear HEN HE hbds hz
  generalize cauU (h.bun l)=z at *
  unfold bunV at *
  go_enter Tryz.func48,Tryz.ntmps48
  go_wp2_with (first
   | (refine wpList_ld18 rfl (.tmp 1) rfl _ rfl _ _ (HRW.out _ HW0.out) rfl ?_)
   | fail)
  refine C1.out.mono ?_
  rintro e w1 ⟨hb,A1,n1,c1,rfl,hc1,hr1⟩
  have B1:=hid (HB0.out.trans (hb.mono HB0.out.size))
  clear hb hc1 hr1
  go_wp2_with fail
  go_ret2
  exact ⟨B1.out,_,_,_,rfl,Nat.le_refl _,Rd.nil_⟩
 rw [if_pos hz] at C1
 have hok:=cauU_0.1 hz
 have hwr:=(primOk_iff.1 hok.2.1).1
 have hkb:∀ y∈l,blkOk y=true∧Bd y:=okBs_of hok.2.2 hbds
 have hl16:=(blksOk_len hok.2.2).2
 have e16:(h.bun l).blks=l:=rfl
 rw [e16] at hl16
 have hBW:bunW (h.bun l)=(0x9f::primW (h.bun l))++blkWs l++[0xff]:=by unfold bunW;simp [BH.bun]
 rw [if_neg (by simpa using hz),hBW] at HEN
 have hpl:=primW_len hwr
 have HKB:=hid hkb
 generalize primW (h.bun l)=PW at *
 generalize cauU (h.bun l)=z at *
 subst hz
 obtain ⟨hd9,hhd9⟩:∃ q,q=(0x9f:UInt8)::PW:=⟨_,rfl⟩
 have hhl:hd9.length≤455:=by rw [hhd9];simp;omega
 rw [← hhd9] at HEN
 have HHD:=hid hhd9
 have HHL:=hid (And.intro hhl (And.intro hl16 HR.out.1))
 have HPL:Hid (PW.length≤454):=hpl
 clear hok hwr hkb hl16 e16 hBW hpl hbds hhd9 hhl
 unfold bunV at *
 go_enter Tryz.func48,Tryz.ntmps48
 go_wp2_with (first
  | (refine wpList_ld18 rfl (.tmp 1) rfl _ rfl _ _ (HRW.out _ HW0.out) rfl ?_)
  | fail)
 refine C1.out.mono ?_
 rintro e w1 ⟨hb,A2,n2,c2,rfl,hc2,hr2⟩
 have B1:=hid (Below.push HW0.out (Nat.le_of_eq HS0.out.symm) hb)
 have B2:Hid (Below (w.heap.size+1) (w.alloc (.cells #[.int .u64 (h.flg:Int),.int .i64 h.crc,.int .i64 h.dsc,.string h.dnm,.int .u64 (h.dn:Int),.int .u64 (h.dv:Int),.int .i64 h.ssc,.string h.snm,.int .u64 (h.sn:Int),.int .u64 (h.sv:Int),.int .i64 h.rsc,.string h.rnm,.int .u64 (h.rn:Int),.int .u64 (h.rv:Int),.int .u64 (h.tim:Int),.int .u64 (h.seq:Int),.int .u64 (h.lif:Int),.slice A n c] 73)) (w1.alloc (.cells #[.int .u8 159] 5))):=B1.out.alloc (by have:=B1.out.size;have:=HS0.out;omega) _
 have O2:Hid (Ob (w1.alloc (.cells #[.int .u8 159] 5)) (w.heap.size+1) 5 (.slice (some ⟨w1.heap.size,0,none⟩) 1 1) [0x9f]):=Ob.lit w1 [0x9f] #[.int .u8 159] rfl (by have:=B1.out.size;have:=HS0.out;omega) 1 rfl (by decide)
 have R2:Hid (Rd (w1.alloc (.cells #[.int .u8 159] 5)) w1.heap.size A2 n2 PW):=hr2.alloc nlr _
 clear hb hc2 hr2
 go_wp2_with (first
  | (at_builtin;refine wpList_appB rfl (.tmp 18) (.tmp 19) 27 rfl (w.heap.size+1) 5 rfl info_u8 _ [0x9f] rfl O2.out _ _ _ _ PW rfl R2.out (by have:=HPL.out;have:=R2.out.1;simp;omega) (by have h1:=B2.out.size;rw [HS0.out] at h1;exact h1) ?_;intro v3 w3 ho3 hb3;have O3:=hid ho3;have B3:Hid (Below (w.heap.size+1) (w.alloc (.cells #[.int .u64 (h.flg:Int),.int .i64 h.crc,.int .i64 h.dsc,.string h.dnm,.int .u64 (h.dn:Int),.int .u64 (h.dv:Int),.int .i64 h.ssc,.string h.snm,.int .u64 (h.sn:Int),.int .u64 (h.sv:Int),.int .i64 h.rsc,.string h.rnm,.int .u64 (h.rn:Int),.int .u64 (h.rv:Int),.int .u64 (h.tim:Int),.int .u64 (h.seq:Int),.int .u64 (h.lif:Int),.slice A n c] 73)) w3):=B2.out.trans hb3;clear ho3 hb3)
  | fail)
 have O3':Hid (Ob w3 (w.heap.size+1) 5 v3 (hd9++blkWs (l.take 0))):=by
  have:=O3.out
  show Ob _ _ _ _ _
  rw [HHD.out,List.take_zero,blkWs,List.append_nil]
  exact this
 go_loopw [6,7] (fun v iv wr=>∃ i:Nat,i≤n∧iv=.int .i64 (i:Int)∧Hid (Ob wr (w.heap.size+1) 5 v (hd9++blkWs (l.take i)))∧Hid (Below (w.heap.size+1) (w.alloc (.cells #[.int .u64 (h.flg:Int),.int .i64 h.crc,.int .i64 h.dsc,.string h.dnm,.int .u64 (h.dn:Int),.int .u64 (h.dv:Int),.int .i64 h.ssc,.string h.snm,.int .u64 (h.sn:Int),.int .u64 (h.sv:Int),.int .i64 h.rsc,.string h.rnm,.int .u64 (h.rn:Int),.int .u64 (h.rv:Int),.int .u64 (h.tim:Int),.int .u64 (h.seq:Int),.int .u64 (h.lif:Int),.slice A n c] 73)) wr)) (fun _ iv _=>n - (intOf iv).toNat)
 case atStart=>exact ⟨0,Nat.zero_le _,rfl,O3'.out,B3.out⟩
 case round =>
  obtain ⟨i,hi,rfl,HO,HB⟩:=hrel
  have x17:=cell_row (HRW.out _ HB.out) 17 rfl
  by_cases hlt:i<n
  ·
   have hil:i<l.length:=by rw [HR.out.1];exact hlt
   have hii:(i:Int)<(n:Int):=by omega
   have hii2:decide ((i:Int)<(n:Int))=true:=decide_eq_true hii
   obtain ⟨b,o,hA,hbB,hks⟩:=HR.out.2.1 (by omega)
   obtain ⟨A1,nd,cd,hk⟩:=hks.get i hil
   have hk2:=hk.below ((HB0.out.trans (HB.out.mono (Nat.le_succ _))).mono HH.out) hbB
   have hkb:=HKB.out _ (List.getElem_mem hil)
   have hstep:blkWs (l.take (i+1))=blkWs (l.take i)++blkW (l[i]'hil):=by
    rw [List.take_succ_eq_append_getElem hil,blkWs_app];simp [blkWs]
   have hlen:(hd9++blkWs (l.take i)).length≤455+16*4200:=by
    rw [List.length_append]
    have h1:=blkWs_len (l:=l.take i) (fun y hy=>HKB.out y (List.mem_of_mem_take hy))
    have h2:=HHL.out
    have h3:(l.take i).length≤16:=by rw [List.length_take];omega
    omega
   generalize l[i]=x at *
   have g0:=hk2.k0
   have g1:=hk2.k1
   have g2:=hk2.k2
   have g3:=hk2.k3
   have g4:=hk2.k4
   have CE:=hid (rencodeB_any x A1 nd cd B wr hkb.2 (Nat.le_trans HH.out (HB0.out.trans (HB.out.mono (Nat.le_succ _))).size) hk2.rd)
   rw [if_pos hkb.1,if_pos hkb.1] at CE
   have HXL:=hid (blkW_len hkb.1)
   have HSTEP:=hid hstep
   have HLEN:=hid hlen
   clear hk hk2 hks hbB hkb hstep hlen
   subst hA
   unfold blkV at *
   go_wp2_with fail
   refine CE.out.mono ?_
   rintro e w5 ⟨hb5,A5,n5,c5,rfl,hc5,hr5⟩
   have B5:=hid (Below.push HB.out (Nat.le_of_eq HS0.out.symm) hb5)
   have O5:=hid (HO.out.below hb5)
   have R5:=hid hr5
   clear hb5 hc5 hr5 g0 g1 g2 g3 g4 x17
   go_wp2_with (first
    | (at_builtin;refine wpList_appB rfl (.tmp 37) (.tmp 38) 27 rfl (w.heap.size+1) 5 rfl info_u8 _ _ rfl O5.out _ _ _ _ (blkW x) rfl R5.out (by have:=HLEN.out;have:=HXL.out;have:=R5.out.1;omega) (by have:=B5.out.size;have:=HS0.out;omega) ?_;intro v6 w6 ho6 hb6;have O6:=hid ho6;have B6:=hid (B5.out.trans hb6);clear ho6 hb6)
    | fail)
   go_roundw
   case rel=>exact ⟨i+1,by omega,by go_num,hid (by rw [HSTEP.out,← List.append_assoc];exact O6.out),B6.out⟩
   case measure=>simp [intOf];omega
  ·
   obtain rfl:i=n:=by omega
   have hii:¬ (i:Int)<(i:Int):=by omega
   have hii2:decide ((i:Int)<(i:Int))=false:=decide_eq_false hii
   have hfull:hd9++blkWs (l.take i)=hd9++blkWs l:=by rw [List.take_of_length_le (by rw [HR.out.1];exact Nat.le_refl _)]
   have ho:=HO.out
   rw [hfull] at ho
   have HBL:Hid ((hd9++blkWs l).length≤455+16*4200):=by
    show _≤_
    rw [List.length_append]
    have h1:=blkWs_len (l:=l) HKB.out
    have h2:=HHL.out
    rw [h2.2.2] at h1
    omega
   obtain ⟨AL,cL,rfl,hcL,-,-⟩:=ho.rd
   have O7:Hid (Ob (wr.alloc (.cells #[.int .u8 255] 5)) (w.heap.size+1) 5 (.slice AL (hd9++blkWs l).length cL) (hd9++blkWs l)):=ho.alloc _
   have HBr:=hid HB.out
   have R7:Hid (Rd (wr.alloc (.cells #[.int .u8 255] 5)) (wr.heap.size+1) (some ⟨wr.heap.size,0,none⟩) 1 [0xff]):=Rd.lit wr wr.heap.size rfl [0xff] 5 #[.int .u8 255] rfl 1 rfl
   generalize hQ:hd9++blkWs l=QL at *
   clear hfull ho hcL HO
   have HEN2:Hid (encU (h.bun l)=if 4096<(QL++[0xff]).length then ([],60) else (QL++[0xff],0)):=by show _=_;rw [HEN.out]
   have hlenq:(QL++[0xff]:List UInt8).length=QL.length+1:=by simp
   by_cases hbig:4096<QL.length+1
   ·
    have t1:decide ((4096:Int)<((QL.length+1:Nat):Int))=true:=decide_eq_true (by omega)
    have t2:(4096:Int)<((QL++[0xff]:List UInt8).length:Int):=by omega
    have t3:decide ((4096:Int)<((QL++[0xff]:List UInt8).length:Int))=true:=decide_eq_true t2
    have HE:Hid (encU (h.bun l)=([],60)):=by show _=_;rw [HEN2.out,if_pos (by rw [hlenq];exact hbig)]
    generalize (QL++[0xff]:List UInt8).length=LQ at *
    go_wp2_with (first
     | (at_builtin;refine wpList_appB rfl (.tmp 40) (.tmp 41) 27 rfl (w.heap.size+1) 5 rfl info_u8 _ QL rfl O7.out _ _ _ _ [0xff] rfl R7.out (by have:=HBL.out;omega) (by have h1:=HBr.out.size;rw [HS0.out] at h1;exact Nat.le_trans h1 (le_alloc _ _)) ?_;intro v8 w8 ho8 hb8;obtain ⟨A8,c8,hv8,hc8,hm8,hr8⟩:=ho8.rd;subst hv8;have B8:=hid ((HBr.out.alloc (by have:=HBr.out.size;have:=HS0.out;omega) _).trans hb8);clear ho8 hb8 hc8 hm8 hr8)
     | fail)
    go_ret2
    exact ⟨HB0.out.trans (B8.out.mono (Nat.le_succ _)),none,0,0,(show Ending.returned _=Ending.returned _ by rw [HE.out];rfl),Nat.le_refl _,(by rw [HE.out];exact Rd.nil_)⟩
   ·
    have t1:decide ((4096:Int)<((QL.length+1:Nat):Int))=false:=decide_eq_false (by omega)
    have t2:¬ (4096:Int)<((QL++[0xff]:List UInt8).length:Int):=by omega
    have t3:decide ((4096:Int)<((QL++[0xff]:List UInt8).length:Int))=false:=decide_eq_false t2
    have HE:Hid (encU (h.bun l)=(QL++[0xff],0)):=by show _=_;rw [HEN2.out,if_neg (by rw [hlenq];exact hbig)]
    go_wp2_with (first
     | (at_builtin;refine wpList_appB rfl (.tmp 40) (.tmp 41) 27 rfl (w.heap.size+1) 5 rfl info_u8 _ QL rfl O7.out _ _ _ _ [0xff] rfl R7.out (by have:=HBL.out;omega) (by have h1:=HBr.out.size;rw [HS0.out] at h1;exact Nat.le_trans h1 (le_alloc _ _)) ?_;intro v8 w8 ho8 hb8;obtain ⟨A8,c8,hv8,hc8,hm8,hr8⟩:=ho8.rd;subst hv8;have HR8:=hid (And.intro hc8 hr8);have B8:=hid ((HBr.out.alloc (by have:=HBr.out.size;have:=HS0.out;omega) _).trans hb8);clear ho8 hb8 hc8 hm8 hr8)
     | fail)
    go_ret2
    have h7:=HR8.out.1
    have h8:=HR8.out.2
    try rw [hlenq] at h7
    try rw [hlenq] at h8
    exact ⟨HB0.out.trans (B8.out.mono (Nat.le_succ _)),A8,QL.length+1,c8,(show Ending.returned _=Ending.returned _ by rw [HE.out];rfl),h7,(by rw [HE.out];exact h8)⟩
end Go.Proofs.YtlecbblmaadpiaaGreatDoor
