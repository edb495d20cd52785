import Derived.Test.YteckeagobafoiaaGreatDoorQCborS
import Derived.Test.YteckeagobafoiaaGreatDoorQKHead
import Derived.Test.YteckeagobafoiaaGreatDoorQNumG
import Derived.Deep.RegionHeld3
namespace Go.Proofs.YteckeagobafoiaaGreatDoor
set_option maxRecDepth 100000
set_option maxHeartbeats 16000000
open Go.RowKit
theorem box_cells {w w':World} {c0 c1 c2 c3:Value} {t:TypeId} (h:Below (w.heap.size+1) (w.alloc (.cells #[c0,c1,c2,c3] t)) w') :
  w'.cell? ⟨w.heap.size,0,none⟩=some c0∧w'.cell? ⟨w.heap.size,1,none⟩=some c1∧w'.cell? ⟨w.heap.size,2,none⟩=some c2∧w'.cell? ⟨w.heap.size,3,none⟩=some c3 :=
 ⟨(h.cell (p:=⟨w.heap.size,0,none⟩) (Nat.lt_succ_self _)).trans (by simp),(h.cell (p:=⟨w.heap.size,1,none⟩) (Nat.lt_succ_self _)).trans (by simp),(h.cell (p:=⟨w.heap.size,2,none⟩) (Nat.lt_succ_self _)).trans (by simp),(h.cell (p:=⟨w.heap.size,3,none⟩) (Nat.lt_succ_self _)).trans (by simp)⟩
theorem to_box {w w':World} {o:Obj} (h:Below (w.alloc o).heap.size (w.alloc o) w'):Below (w.heap.size+1) (w.alloc o) w':=h.mono (by simp)
theorem Below.drew_ {B:Nat} {w:World}:Below B w w.drew:=(Below.refl B w).drew
def GivesI (x:Itm) (w:World) (e:Ending) (w':World):Prop:=∃ v,e=.returned v∧RdI w' w'.heap.size v x∧Below w.heap.size w w'
theorem RdI.mk_uint {w:World} {B n:Nat} (hn:n<18446744073709551616):RdI w B (.agg #[.int .i64 0,.int .u64 (n:Int),.slice none 0 0,.slice none 0 0]) (.mk 0 n [] []):=by
 rw [RdI]
 exact ⟨none,0,0,none,0,0,rfl,by decide,hn,⟨Nat.le_refl _,by decide⟩,Rd.nil_,⟨Nat.le_refl _,by decide⟩,rfl,fun h=>absurd h (Nat.lt_irrefl _)⟩
theorem RdI.mk_data {w:World} {B nd cd:Nat} {A:Option Addr} {d:List UInt8} {k:Int} (hk:(Lit.int .i64 k).wf=true) (hc:nd≤cd) (hc2:nd≤140737488355328) (h:Rd w B A nd d):RdI w B (.agg #[.int .i64 k,.int .u64 0,.slice A nd cd,.slice none 0 0]) (.mk k 0 d []):=by
 rw [RdI]
 exact ⟨A,nd,cd,none,0,0,rfl,hk,by decide,⟨hc,hc2⟩,h,⟨Nat.le_refl _,by decide⟩,rfl,fun h=>absurd h (Nat.lt_irrefl _)⟩
theorem zero_cells {w W':World} (h:Below (w.heap.size+1) (w.alloc (.cells #[.int .i64 0,.int .u64 0,.slice none 0 0,.slice none 0 0] 94)) W') :
  (W'.cell? ⟨w.heap.size,0,none⟩=some (.int .i64 0)∧W'.cell? ⟨w.heap.size,1,none⟩=some (.int .u64 0)∧W'.cell? ⟨w.heap.size,2,none⟩=some (.slice none 0 0)∧W'.cell? ⟨w.heap.size,3,none⟩=some (.slice none 0 0)) ∧
  (W'.frozen? ⟨w.heap.size,0,none⟩=false∧W'.frozen? ⟨w.heap.size,1,none⟩=false∧W'.frozen? ⟨w.heap.size,2,none⟩=false∧W'.frozen? ⟨w.heap.size,3,none⟩=false) :=
 ⟨box_cells h,(h.frozen (p:=⟨w.heap.size,0,none⟩) (Nat.lt_succ_self _)).trans (by simp),(h.frozen (p:=⟨w.heap.size,1,none⟩) (Nat.lt_succ_self _)).trans (by simp),(h.frozen (p:=⟨w.heap.size,2,none⟩) (Nat.lt_succ_self _)).trans (by simp),(h.frozen (p:=⟨w.heap.size,3,none⟩) (Nat.lt_succ_self _)).trans (by simp)⟩
theorem Rd.set4 {W':World} {B n:Nat} {A:Option Addr} {l:List UInt8} {g:Nat} {u0 u1 u2 u3:Value} (h:Rd W' B A n l) (hA:0<n→∀ b o,A=some ⟨b,o,none⟩→b≠g) :
  Rd ((((W'.setCell ⟨g,0,none⟩ u0).setCell ⟨g,1,none⟩ u1).setCell ⟨g,2,none⟩ u2).setCell ⟨g,3,none⟩ u3) B A n l :=
 ⟨h.1,fun hn=>by
  obtain ⟨b,o,e,hb,hc⟩:=h.2 hn
  have hne:=hA hn b o e
  refine ⟨b,o,e,hb,fun i hi=>?_⟩
  rw [World.cell?_setCell_far _ _ _ _ (fun h=>hne h.symm),World.cell?_setCell_far _ _ _ _ (fun h=>hne h.symm),World.cell?_setCell_far _ _ _ _ (fun h=>hne h.symm),World.cell?_setCell_far _ _ _ _ (fun h=>hne h.symm)]
  exact hc i hi⟩
theorem below_set4 {B g:Nat} {w W':World} {u0 u1 u2 u3:Value} (h:Below B w W') (hg:B≤g):Below B w ((((W'.setCell ⟨g,0,none⟩ u0).setCell ⟨g,1,none⟩ u1).setCell ⟨g,2,none⟩ u2).setCell ⟨g,3,none⟩ u3) :=
 (((h.setCell (p:=⟨g,0,none⟩) hg _).setCell (p:=⟨g,1,none⟩) hg _).setCell (p:=⟨g,2,none⟩) hg _).setCell (p:=⟨g,3,none⟩) hg _
open Go.Lib (hid)
theorem bclone_any (A:Option Addr) (n c B:Nat) (l:List UInt8) (w:World) (hB:B≤w.heap.size) (h:Rd w B A n l) (hn:n≤140737488355328) :
  Calls Tryz.prog 146 #[.slice A n c] w (GivesO 5 l w):=by
 have hl:=h.1
 rcases A with _|a
 ·
  have h0:n=0:=by
   rcases Nat.eq_zero_or_pos n with h0|h0
   ·
    exact h0
   ·
    obtain ⟨_,_,e,_⟩:=h.2 h0
    cases e
  subst h0
  have e:l=[]:=List.eq_nil_of_length_eq_zero hl
  subst e
  have q22:=fun (W:World) (a:Option Addr) (n c:Nat)=>Lib.run_eql_slice_nil (P:=Tryz.prog) W 29 5 a n c 0 0 Tryz.underlying29
  go_enter Tryz.func146,Tryz.ntmps146
  go_wp2_with fail
  go_ret
  exact ⟨_,rfl,Ob.nil_ _ _ _,Below.refl _ _⟩
 ·
  have HR:=hid (h.alloc hB (.cells #[] 5))
  have HO:=hid (show Ob (w.alloc (.cells #[] 5)) w.heap.size 5 (.slice (some ⟨w.heap.size,0,none⟩) 0 0) [] from Ob.lit w [] #[] rfl (Nat.le_refl _) 0 rfl (by decide))
  have HN:Hid (([]:List UInt8).length+n≤140737488355328):=by show _≤_;simp;exact hn
  clear h hn hl hB
  have q22:=fun (W:World) (a:Option Addr) (n c:Nat)=>Lib.run_eql_slice_nil (P:=Tryz.prog) W 29 5 a n c 0 0 Tryz.underlying29
  go_enter Tryz.func146,Tryz.ntmps146
  go_wp2_with (first
   | (at_builtin;refine wpList_appB rfl (.tmp 5) (.tmp 6) 29 rfl w.heap.size 5 Tryz.underlying29 info_u8 _ [] rfl HO.out B (some a) n c l rfl HR.out HN.out (by simp) ?_;intro v1 w1 ho1 hb1;have O1:=hid ho1;have B1:=hid (((Below.refl w.heap.size w).alloc (Nat.le_refl _) _).trans hb1);clear ho1 hb1)
   | fail)
  go_ret
  exact ⟨_,rfl,by have:=O1.out;rwa [List.nil_append] at this,B1.out⟩
theorem cuint_any (n:Nat) (w:World) (h:n<18446744073709551616) :
  Calls Tryz.prog 152 #[.int .u64 (n:Int)] w (GivesI (.mk 0 n [] []) w):=by
 go_enter Tryz.func152,Tryz.ntmps152
 go_wp2_with fail
 have hr:=fun W B=>RdI.mk_uint (w:=W) (B:=B) (n:=n) h
 exact bodyPost_ret (v:=.agg #[.int .i64 0,.int .u64 (n:Int),.slice none 0 0,.slice none 0 0]) (by simp [results,Tryz.results152,go_sem]) rfl ⟨_,rfl,hr _ _,(Below.refl _ _).alloc (Nat.le_refl _) _⟩
theorem cbytes_any (A:Option Addr) (n c B:Nat) (l:List UInt8) (w:World) (hB:B≤w.heap.size) (h:Rd w B A n l) (hn:n≤140737488355328) (_hc:n≤c) :
  Calls Tryz.prog 132 #[.slice A n c] w (GivesI (.mk 2 0 l []) w):=by
 have C1:=hid (bclone_any A n c B l (w.alloc (.cells #[.int .i64 0,.int .u64 0,.slice none 0 0,.slice none 0 0] 94)) (Nat.le_trans hB (le_alloc _ _)) (h.alloc hB _) hn)
 have HLN:=hid h.1
 have HN:=hid hn
 clear h hn hB
 go_enter Tryz.func132,Tryz.ntmps132
 go_wp2_with fail
 refine C1.out.mono ?_
 rintro e w1 ⟨v,rfl,ho,hb⟩
 have hb':=to_box hb
 obtain ⟨⟨z0,z1,z2,z3⟩,f0,f1,f2,f3⟩:=zero_cells hb'
 obtain ⟨A2,c2,rfl,hc2,hm2,hr2⟩:=ho.rdn HLN.out
 have HR2:=hid hr2
 have HO2:=hid ho
 have B1:=hid hb'
 clear ho hb hb' hr2
 go_wp2_with fail
 refine bodyPost_ret (v:=.agg #[.int .i64 2,.int .u64 0,.slice A2 n c2,.slice none 0 0]) (by simp [results,Tryz.results132,go_sem,z0,z1,z2,z3]) rfl ⟨_,rfl,RdI.mk_data (by decide) hc2 HN.out ?_,?_⟩
 ·
  refine Rd.set4 (HR2.out.more (by simp [World.setCell])) (fun hn b o h=>?_)
  obtain ⟨g,cap,hv,hg,_,_⟩:=HO2.out.form (by rw [HLN.out];exact hn)
  subst h
  cases hv
  simp at hg
  omega
 ·
  exact below_set4 (((Below.refl _ _).alloc (Nat.le_refl _) _).trans (B1.out.mono (Nat.le_succ _))) (Nat.le_refl _)
end Go.Proofs.YteckeagobafoiaaGreatDoor
