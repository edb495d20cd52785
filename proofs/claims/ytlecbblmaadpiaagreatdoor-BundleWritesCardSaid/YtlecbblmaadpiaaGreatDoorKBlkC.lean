import Derived.Test.YtlecbblmaadpiaaGreatDoorKBAsW
import Derived.Test.YtlecbblmaadpiaaGreatDoorKBunM
import Derived.Test.YtlecbblmaadpiaaGreatDoorKNumE
import Derived.Stop.IfaceNil
namespace Go.Proofs.YtlecbblmaadpiaaGreatDoor
set_option maxRecDepth 100000
set_option maxHeartbeats 16000000
open Go.RowKit
open Go.Lib (hid)
theorem bnumber_any (z:Int) (s:ByteArray) (w:World) (hL:LaidE w) :
  Calls Tryz.prog 77 #[.iface 158 (.agg #[.int .i64 z,.string s])] w fun e w'=>e=.returned (.int .i64 z)∧Below w.heap.size w w':=by
 have C1:=hid (bas_hit z s w.heap.size (.int .i64 0) (.string ⟨#[]⟩) (w.alloc (.cells #[.int .i64 0,.string ⟨#[]⟩] 158)) (hL.below ((Below.refl _ _).alloc nlr _) hL.lt) (by simp) (by simp) (by simp) (by simp))
 clear hL
 go_enter Tryz.func77,Tryz.ntmps77
 go_wp2_with fail
 refine C1.out.mono ?_
 rintro e w1 ⟨rfl,hb,hc⟩
 have HB:=hid hb
 clear hb
 go_wp2_with fail
 go_ret
 exact ⟨rfl,((Below.refl _ _).alloc nlr _).trans HB.out⟩
theorem bnumber_nil (w:World) :
  Calls Tryz.prog 77 #[.nilIface] w fun e w'=>e=.returned (.int .i64 0)∧Below w.heap.size w w':=by
 have C1:=hid (as_nil (.iface 164 (.pointer (some ⟨w.heap.size,0,none⟩))) (w.alloc (.cells #[.int .i64 0,.string ⟨#[]⟩] 158)))
 go_enter Tryz.func77,Tryz.ntmps77
 go_wp2_with fail
 refine C1.out.mono ?_
 rintro e w1 ⟨rfl,rfl⟩
 go_wp2_with fail
 go_ret
 exact ⟨rfl,(Below.refl _ _).alloc nlr _⟩
def bfl (z:Int) (s:ByteArray):Value:=.iface 158 (.agg #[.int .i64 z,.string s])
def WhyB (ok:Bool) (z:Int) (w:World) (e:Ending) (w':World):Prop:=Below w.heap.size w w'∧((ok=true∧e=.returned .nilIface)∨(ok=false∧∃ s,e=.returned (bfl z s)))
def blkV (t n f:Nat) (c:Int) (A:Option Addr) (nd cd:Nat):Value:=.agg #[.int .u64 (t:Int),.int .u64 (n:Int),.int .u64 (f:Int),.int .i64 c,.slice A nd cd]
theorem bcheck_any (t n f:Nat) (c:Int) (A:Option Addr) (nd cd:Nat) (d:List UInt8) (w:World) (hd:d.length=nd) :
  Calls Tryz.prog 88 #[blkV t n f c A nd cd] w (WhyB (blkOk ⟨t,n,f,c,d⟩) 50 w):=by
 obtain ⟨R,hR⟩:∃ R,R=blkOk ⟨t,n,f,c,d⟩:=⟨_,rfl⟩
 rw [← hR]
 have hR2:R=(decide (1≤(t:Int)∧(t:Int)≤255)&&(decide (¬ (n:Int)=0)&&((decide (¬ (t:Int)=1)||decide ((n:Int)=1))&&(decide (0≤c∧c≤2)&&decide ((nd:Int)≤4096))))):=by
  rw [hR,← hd,Bool.eq_iff_iff,blkOk_iff]
  simp only [Bool.and_eq_true,Bool.or_eq_true,decide_eq_true_eq]
  omega
 clear hR hd
 unfold blkV
 generalize (t:Int)=T at *
 generalize (n:Int)=N at *
 by_cases h1:T<1
 ·
  have hr:R=false:=by rw [hR2];simp;omega
  subst hr
  clear hR2
  go_enter Tryz.func88,Tryz.ntmps88
  go_wp2_with fail
  go_ret
  exact ⟨(Below.refl _ _).alloc nlr _,.inr ⟨rfl,_,rfl⟩⟩
 have h1':1≤T:=by omega
 by_cases h2:255<T
 ·
  have hr:R=false:=by rw [hR2];simp;omega
  subst hr
  clear hR2
  go_enter Tryz.func88,Tryz.ntmps88
  go_wp2_with fail
  go_ret
  exact ⟨(Below.refl _ _).alloc nlr _,.inr ⟨rfl,_,rfl⟩⟩
 have h2':T≤255:=by omega
 by_cases h3:N=0
 ·
  have hr:R=false:=by rw [hR2];simp [h3]
  subst hr h3
  clear hR2
  go_enter Tryz.func88,Tryz.ntmps88
  go_wp2_with fail
  go_ret
  exact ⟨(Below.refl _ _).alloc nlr _,.inr ⟨rfl,_,rfl⟩⟩
 have h3':(N==0)=false:=by simpa using h3
 by_cases h4:T=1∧N≠1
 ·
  have hr:R=false:=by rw [hR2];simp [h4.1,h4.2]
  obtain ⟨h4,h5⟩:=h4
  have h5':(N==1)=false:=by simpa using h5
  subst hr h4
  clear hR2
  go_enter Tryz.func88,Tryz.ntmps88
  go_wp2_with fail
  go_ret
  exact ⟨(Below.refl _ _).alloc nlr _,.inr ⟨rfl,_,rfl⟩⟩
 have h6:(decide (¬ T=1)||decide (N=1))=true:=by simp;omega
 have h7:decide (¬ N=0)=true:=by simpa using h3
 have h8:decide (1≤T∧T≤255)=true:=by simp;omega
 rw [h6,h7,h8,Bool.true_and,Bool.true_and,Bool.true_and] at hR2
 clear h6 h7 h8
 have key:∀ (hq:T≠1∨N=1),Calls Tryz.prog 88 #[.agg #[.int .u64 T,.int .u64 N,.int .u64 (f:Int),.int .i64 c,.slice A nd cd]] w (WhyB R 50 w):=by
  intro hq
  by_cases hT:T=1
  ·
   obtain rfl:N=1:=by omega
   subst hT
   clear hq h1 h1' h2 h2' h3 h3' h4
   by_cases h9:c<0
   ·
    have hr:R=false:=by rw [hR2];simp;omega
    subst hr
    clear hR2
    go_enter Tryz.func88,Tryz.ntmps88
    go_wp2_with fail
    go_ret
    exact ⟨(Below.refl _ _).alloc nlr _,.inr ⟨rfl,_,rfl⟩⟩
   have h9':0≤c:=by omega
   by_cases h10:2<c
   ·
    have hr:R=false:=by rw [hR2];simp;omega
    subst hr
    clear hR2
    go_enter Tryz.func88,Tryz.ntmps88
    go_wp2_with fail
    go_ret
    exact ⟨(Below.refl _ _).alloc nlr _,.inr ⟨rfl,_,rfl⟩⟩
   have h10':c≤2:=by omega
   by_cases h11:(4096:Int)<nd
   ·
    have hr:R=false:=by rw [hR2];simp;omega
    have h11':4096<nd:=by omega
    subst hr
    clear hR2
    go_enter Tryz.func88,Tryz.ntmps88
    go_wp2_with fail
    go_ret
    exact ⟨(Below.refl _ _).alloc nlr _,.inr ⟨rfl,_,rfl⟩⟩
   have h11':nd≤4096:=by omega
   have hr:R=true:=by rw [hR2];simp;omega
   subst hr
   clear hR2
   go_enter Tryz.func88,Tryz.ntmps88
   go_wp2_with fail
   go_ret
   exact ⟨(Below.refl _ _).alloc nlr _,.inl ⟨rfl,rfl⟩⟩
  ·
   have hT':(T==1)=false:=by simpa using hT
   clear hq h4
   by_cases h9:c<0
   ·
    have hr:R=false:=by rw [hR2];simp;omega
    subst hr
    clear hR2
    go_enter Tryz.func88,Tryz.ntmps88
    go_wp2_with fail
    go_ret
    exact ⟨(Below.refl _ _).alloc nlr _,.inr ⟨rfl,_,rfl⟩⟩
   have h9':0≤c:=by omega
   by_cases h10:2<c
   ·
    have hr:R=false:=by rw [hR2];simp;omega
    subst hr
    clear hR2
    go_enter Tryz.func88,Tryz.ntmps88
    go_wp2_with fail
    go_ret
    exact ⟨(Below.refl _ _).alloc nlr _,.inr ⟨rfl,_,rfl⟩⟩
   have h10':c≤2:=by omega
   by_cases h11:(4096:Int)<nd
   ·
    have hr:R=false:=by rw [hR2];simp;omega
    have h11':4096<nd:=by omega
    subst hr
    clear hR2
    go_enter Tryz.func88,Tryz.ntmps88
    go_wp2_with fail
    go_ret
    exact ⟨(Below.refl _ _).alloc nlr _,.inr ⟨rfl,_,rfl⟩⟩
   have h11':nd≤4096:=by omega
   have hr:R=true:=by rw [hR2];simp;omega
   subst hr
   clear hR2
   go_enter Tryz.func88,Tryz.ntmps88
   go_wp2_with fail
   go_ret
   exact ⟨(Below.refl _ _).alloc nlr _,.inl ⟨rfl,rfl⟩⟩
 exact key (by omega)
theorem sumsize_any (k:Int) (w:World) :
  Calls Tryz.prog 129 #[.int .i64 k] w fun e w'=>e=.returned (.int .i64 (sumN k:Int))∧Below w.heap.size w w':=by
 have C1:=hid (bytes_any k none 0 0 0 [] w Rd.nil_ (by decide))
 have hl:=crcBytes_len k []
 generalize sumN k=N at *
 have HL:=hid hl
 clear hl
 go_enter Tryz.func129,Tryz.ntmps129
 go_wp2_with fail
 refine C1.out.mono ?_
 rintro e w1 ⟨A,n,c,rfl,hr,hc,hb⟩
 have HB:=hid hb
 obtain rfl:N=n:=HL.out.symm.trans hr.1
 clear hb hr
 go_wp2_with fail
 go_ret
 exact ⟨rfl,HB.out⟩
end Go.Proofs.YtlecbblmaadpiaaGreatDoor
