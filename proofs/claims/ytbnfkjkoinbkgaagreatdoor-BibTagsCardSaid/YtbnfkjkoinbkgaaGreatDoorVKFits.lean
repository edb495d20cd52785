import Derived.Test.YtbnfkjkoinbkgaaGreatDoorVAbb
import Derived.Test.YtbnfkjkoinbkgaaGreatDoorVAsW
import Derived.Test.YtbnfkjkoinbkgaaGreatDoorVCborS
namespace Go.Proofs.YtbnfkjkoinbkgaaGreatDoor
set_option maxRecDepth 100000
set_option maxHeartbeats 16000000
open Go.RowKit
open Go.Lib (hid)
theorem Qe1(A:OA)(n c B:Nat)(l:LB)(w:World)(h:Rd w B A n l)(hn:n≤140737488355328) :
  Calls Tryz.prog 161 #[.slice A n c] w fun e w'=>e=.returned (.bool (plain l))∧w=w':=by
 have HR:=hid h;clear h;obtain⟨PL,hPL⟩:∃ q,q=plain l:=⟨_,rfl⟩
 rw[← hPL]
 have HPL:=hid hPL;clear hPL;go_enter Tryz.func161,Tryz.ntmps161;go_wp2
 go_loop [7] (fun i=>∃ k:Nat,k≤n∧i=.int .i64 k∧Hid (plain (l.take k)=true)) (fun i=>n - (intOf i).toNat)
 case atStart=>exact⟨0,Nat.zero_le _,rfl,rfl⟩
 case round =>
  obtain⟨k,hk,rfl,hp⟩:=hrel;by_cases hlt:k<n
  ·
   obtain⟨b,o,rfl,hb,hcell⟩:=HR.out.2 (by omega);obtain⟨x,hx⟩:∃ x,x=l.getD k 0:=⟨_,rfl⟩
   have hcx:w.cell? ⟨b,o+k,none⟩=some (.int .u8 (x.toNat:Int)):=by rw[hx];exact hcell k hlt
   have hs:plain (l.take (k+1))=(decide (32≤x.toNat)&&decide (x.toNat≤126)):=by
    rw[Qdb l k (by have:=HR.out.1;omega),Qj1,hp.out,← hx];rfl
   have HS:=hid hs;clear hx hcell hs;obtain⟨X,hX⟩:∃ X,X=x.toNat:=⟨_,rfl⟩
   rw[← hX] at hcx
   have HX:=hid hX;clear hX;by_cases h32:32≤X∧X≤126
   ·
    obtain⟨h1,h2⟩:=h32;go_wp2_with fail;go_round
    case rel=>exact⟨k+1,by omega,by go_num,by show _=true;rw[HS.out,← HX.out];simp;omega⟩
    case measure=>simp[intOf];omega
   ·
    have hf:plain l=false:=Qg1 l (k+1) (by rw[HS.out,← HX.out];simp;omega);rw[← HPL.out] at hf
    subst hf;by_cases h1:X<32
    ·
     go_wp2_with fail;go_ret;exact⟨rfl,rfl⟩
    ·
     have h2:126<X:=by omega
     clear h32;go_wp2_with fail;go_ret;exact⟨rfl,rfl⟩
  ·
   obtain rfl:k=n:=by omega
   have e:plain l=true:=by
    have:=hp.out
    rwa[List.take_of_length_le (by have:=HR.out.1;omega)] at this
   rw[← HPL.out] at e
   subst e;go_wp2
   go_ret;exact⟨rfl,rfl⟩
theorem Qsm(k:Int)(n:Nat)(v2 v3:Value)(w:World)(_h2:v2.oneCell'=true)(_h3:v3.oneCell'=true) :
  Calls Tryz.prog 144 #[.agg #[.int .i64 k,.int .u64 (n:Int),v2,v3]] w fun e w'=>e=.returned (.bool (decide (k=4∨k=5)))∧Below w.heap.size w w':=by
 by_cases h4:k=4
 ·
  subst h4;go_enter Tryz.func144,Tryz.ntmps144;go_wp2_with fail;go_ret;exact⟨rfl,zb⟩
 ·
  by_cases h5:k=5
  ·
   subst h5;go_enter Tryz.func144,Tryz.ntmps144;go_wp2_with fail;go_ret;exact⟨rfl,zb⟩
  ·
   rw[show decide (k=4∨k=5)=false by simp;omega]
   go_enter Tryz.func144,Tryz.ntmps144;go_wp2_with fail;go_ret;exact⟨by show Ending.returned (.bool (k==5))=_;rw[beq_eq_false_iff_ne.2 h5],zb⟩
theorem Qwa(k:Int)(n nd cd N cl B:Nat)(A AL:OA)(d:LB)(l:List Itm)(w:World)(hB:B≤w.heap.size)(hrd:Rd w B A nd d)(hn:nd≤140737488355328)(hl:l.length=N) :
  Calls Tryz.prog 143 #[.agg #[.int .i64 k,.int .u64 (n:Int),.slice A nd cd,.slice AL N cl]] w fun e w'=>e=.returned (.bool (own k n d l))∧Below w.heap.size w w':=by
 have hd:=hrd.1;have C1:=hid (Qe1 A nd cd B d (w.alloc (zo1 k n A nd cd AL N cl)) (hrd.alloc hB _) hn);have hdb:d.isEmpty=decide (nd=0):=by subst hd;cases d <;> simp
 have hlb:l.isEmpty=decide (N=0):=by subst hl;cases l <;> simp
 obtain⟨R,hR⟩:∃ q,q=own k n d l:=⟨_,rfl⟩
 rw[← hR]
 unfold own at hR;rw[hdb,hlb] at hR
 generalize plain d=P at *;have HR:=hid hR;have HB:=hid ((Below.refl w.heap.size w).alloc zr (zo1 k n A nd cd AL N cl));clear hrd hR hd hl hdb hlb hn hB;have a9:((nd:Int)==0)=decide (nd=0):=by
  by_cases h:nd=0
  ·
   subst h;rfl
  ·
   rw[decide_eq_false h,beq_eq_false_iff_ne];omega
 have b9:((N:Int)==0)=decide (N=0):=by
  by_cases h:N=0
  ·
   subst h;rfl
  ·
   rw[decide_eq_false h,beq_eq_false_iff_ne];omega
 have c9:((n:Int)==0)=(n==0):=by
  by_cases h:n=0
  ·
   subst h;rfl
  ·
   rw[beq_eq_false_iff_ne.2 h,beq_eq_false_iff_ne];omega
 have A9:=hid a9;have B9:=hid b9;have C9:=hid c9;clear a9 b9 c9;by_cases h0:k=0
 ·
  subst h0;by_cases a0:nd=0
  ·
   subst a0;go_enter Tryz.func143,Tryz.ntmps143;go_wp2_with fail;go_ret;exact⟨by show Ending.returned (.bool ((N:Int)==0))=_;rw[HR.out,B9.out];simp,zb⟩
  ·
   have a1:((nd:Int)==0)=false:=by rw[A9.out];simp;omega
   go_enter Tryz.func143,Tryz.ntmps143;go_wp2_with fail;go_ret;exact⟨by show Ending.returned (.bool false)=_;rw[HR.out];simp[a0],zb⟩
 by_cases h2:k=2
 ·
  subst h2;by_cases a0:n=0
  ·
   subst a0;go_enter Tryz.func143,Tryz.ntmps143;go_wp2_with fail;go_ret;exact⟨by show Ending.returned (.bool ((N:Int)==0))=_;rw[HR.out,B9.out];simp,zb⟩
  ·
   have a1:((n:Int)==0)=false:=by rw[C9.out];simp;omega
   go_enter Tryz.func143,Tryz.ntmps143;go_wp2_with fail;go_ret;exact⟨by show Ending.returned (.bool false)=_;rw[HR.out];simp[a0],zb⟩
 by_cases h3:k=3
 ·
  subst h3;by_cases a0:n=0
  ·
   subst a0;by_cases b0:N=0
   ·
    subst b0;go_enter Tryz.func143,Tryz.ntmps143;go_wp2_with fail;refine C1.out.mono ?_;rintro e w1 ⟨rfl,rfl⟩;go_wp2_with fail;go_ret;exact⟨by show Ending.returned (.bool P)=_;rw[HR.out];simp,zb⟩
   ·
    have b1:((N:Int)==0)=false:=by rw[B9.out];simp;omega
    go_enter Tryz.func143,Tryz.ntmps143;go_wp2_with fail;go_ret;exact⟨by show Ending.returned (.bool false)=_;rw[HR.out];simp[b0],zb⟩
  ·
   have a1:((n:Int)==0)=false:=by rw[C9.out];simp;omega
   go_enter Tryz.func143,Tryz.ntmps143;go_wp2_with fail;go_ret;exact⟨by show Ending.returned (.bool false)=_;rw[HR.out];simp[a0],zb⟩
 by_cases h4:k=4
 ·
  subst h4;by_cases a0:n=0
  ·
   subst a0;go_enter Tryz.func143,Tryz.ntmps143;go_wp2_with fail;go_ret;exact⟨by show Ending.returned (.bool ((nd:Int)==0))=_;rw[HR.out,A9.out];simp,zb⟩
  ·
   have a1:((n:Int)==0)=false:=by rw[C9.out];simp;omega
   go_enter Tryz.func143,Tryz.ntmps143;go_wp2_with fail;go_ret;exact⟨by show Ending.returned (.bool false)=_;rw[HR.out];simp[a0],zb⟩
 by_cases h5:k=5
 ·
  subst h5;by_cases a0:n=0
  ·
   subst a0;go_enter Tryz.func143,Tryz.ntmps143;go_wp2_with fail;go_ret;exact⟨by show Ending.returned (.bool ((nd:Int)==0))=_;rw[HR.out,A9.out];simp,zb⟩
  ·
   have a1:((n:Int)==0)=false:=by rw[C9.out];simp;omega
   go_enter Tryz.func143,Tryz.ntmps143;go_wp2_with fail;go_ret;exact⟨by show Ending.returned (.bool false)=_;rw[HR.out];simp[a0],zb⟩
 go_enter Tryz.func143,Tryz.ntmps143;go_wp2_with fail;go_ret;exact⟨by show Ending.returned (.bool false)=_;rw[HR.out];simp[h0,h2,h3,h4,h5],zb⟩
theorem Qrs(z:Int)(w:World)(hL:LaidE w) :
  Calls Tryz.prog 120 #[.iface 212 (.agg #[.int .i64 z])] w fun e w'=>e=.returned (.int .i64 z)∧Below w.heap.size w w':=by
 have C1:=hid (Q25 z w.heap.size (.int .i64 0) (w.alloc (.cells #[.int .i64 0] 212)) (hL.below zb hL.lt) (by simp) (by simp));clear hL;go_enter Tryz.func120,Tryz.ntmps120;go_wp2_with fail;refine C1.out.mono ?_;rintro e w1 ⟨rfl,hb,hc⟩;have HB:=hid hb;clear hb;go_wp2_with fail;go_ret;exact⟨rfl,zb.trans HB.out⟩
end Go.Proofs.YtbnfkjkoinbkgaaGreatDoor
