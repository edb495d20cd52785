import Derived.Test.YtlecbblmaadpiaaGreatDoorKArrS
import Derived.Test.YtlecbblmaadpiaaGreatDoorKBunA
import Derived.Test.YtlecbblmaadpiaaGreatDoorKKRd
import Derived.Deep.RegionHeld3
namespace Go.Proofs.YtlecbblmaadpiaaGreatDoor
set_option maxRecDepth 100000
set_option maxHeartbeats 16000000
open Go.RowKit
open Go.Lib (hid)
open Go.Lib (decDigits)
def strL (l:List UInt8):ByteArray:=⟨l.toArray⟩
theorem strL_app (a b:List UInt8):strL a++strL b=strL (a++b):=by
 apply ByteArray.ext
 unfold strL
 simp [ByteArray.data_append]
theorem strL_data (s:ByteArray):strL s.data.toList=s:=Lib.mk_data s
theorem strL_list (l:List UInt8):(strL l).data.toList=l:=by unfold strL;simp
theorem strL_size (l:List UInt8):(strL l).size=l.length:=by rw [Lib.size_eq,strL_list]
theorem nd20 (n:Nat) (h:n<18446744073709551616):(decDigits n).length≤20:=by
 have key:∀ (k n:Nat),n<10 ^ (k+1)→(decDigits n).length≤k+1:=by
  intro k
  induction k with
  | zero=>intro n hn;rw [dec_small (by omega)];simp
  | succ k ih =>
   intro n hn
   by_cases h10:n<10
   ·
    rw [dec_small h10];simp
   ·
    rw [dec_big h10,List.length_append]
    have:=ih (n / 10) (by rw [Nat.div_lt_iff_lt_mul (by decide)];rw [Nat.pow_succ] at hn;exact hn)
    simp only [List.length_singleton]
    omega
 exact key 19 n (Nat.lt_of_lt_of_le h (by decide))
theorem ipntext_any (n v:Nat) (w:World) (hn:n<18446744073709551616) (hv:v<18446744073709551616) :
  Calls Tryz.prog 70 #[.int .u64 (n:Int),.int .u64 (v:Int)] w fun e w'=>e=.returned (.string (strL (ipnL++(decDigits n++(46::decDigits v)))))∧Below w.heap.size w w':=by
 have C1:=hid (fun W=>dec_any (n:Int) W (by omega) (by omega))
 have C2:=hid (fun W=>dec_any (v:Int) W (by omega) (by omega))
 rw [Int.toNat_natCast] at C1 C2
 have l1:=nd20 n hn
 have l2:=nd20 v hv
 have e1:(⟨(decDigits n).toArray⟩:ByteArray)=strL (decDigits n):=rfl
 have e2:(⟨(decDigits v).toArray⟩:ByteArray)=strL (decDigits v):=rfl
 rw [e1] at C1
 rw [e2] at C2
 have eR:((⟨#[105,112,110,58]⟩:ByteArray)++strL (decDigits n)++⟨#[46]⟩)++strL (decDigits v)=strL (ipnL++(decDigits n++(46::decDigits v))):=by
  rw [show (⟨#[105,112,110,58]⟩:ByteArray)=strL ipnL from rfl,show (⟨#[46]⟩:ByteArray)=strL [46] from rfl,strL_app,strL_app,strL_app]
  congr 1
  simp
 have s1:(strL (decDigits n)).size≤20:=by rw [strL_size];exact l1
 have s2:(strL (decDigits v)).size≤20:=by rw [strL_size];exact l2
 rw [← eR]
 generalize strL (decDigits n)=N at *
 generalize strL (decDigits v)=V at *
 clear e1 e2 l1 l2 eR
 go_enter Tryz.func70,Tryz.ntmps70
 go_wp2_with fail
 refine (C1.out _).mono ?_
 rintro e w1 ⟨rfl,hb⟩
 have HB:=hid hb
 clear hb
 go_wp2_with fail
 refine (C2.out _).mono ?_
 rintro e w2 ⟨rfl,hb⟩
 have HB2:=hid hb
 clear hb
 go_wp2_with fail
 go_ret
 exact ⟨rfl,HB.out.trans (HB2.out.mono HB.out.size)⟩
theorem box_cells4 {w w':World} {c0 c1 c2 c3:Value} {t:TypeId} (h:Below (w.alloc (.cells #[c0,c1,c2,c3] t)).heap.size (w.alloc (.cells #[c0,c1,c2,c3] t)) w') :
  w'.cell? ⟨w.heap.size,0,none⟩=some c0∧w'.cell? ⟨w.heap.size,1,none⟩=some c1∧w'.cell? ⟨w.heap.size,2,none⟩=some c2∧w'.cell? ⟨w.heap.size,3,none⟩=some c3:=by
 refine ⟨?_,?_,?_,?_⟩ <;> (rw [h.cell (by simp),World.cell?_alloc_at _ _ _ _ rfl];rfl)
theorem ep_name (sc:Int) (s:ByteArray) (n v:Nat):(ep sc s n v).name=s.data.toList:=rfl
theorem text_any (A:Snt) (sc:Int) (s:ByteArray) (n v:Nat) (w:World) (hA:Lds A w) (hs:s.size≤140737488355328) (hn:n<18446744073709551616) (hv:v<18446744073709551616) :
  Calls Tryz.prog 20 #[epdV sc s n v] w fun e w'=>e=.returned (.string (strL (textE (ep sc s n v))))∧Below w.heap.size w w':=by
 have C1:=hid (ccheck_any A sc s n v (w.alloc (.cells #[.int .i64 sc,.string s,.int .u64 (n:Int),.int .u64 (v:Int)] 25)) (hA.alloc _) hs)
 have C2:=hid (fun W=>none_any sc s n v W)
 have C3:=hid (fun W=>ipntext_any n v W hn hv)
 clear hA
 cases hc:checkB (ep sc s n v) with
 | false =>
  have ht:textE (ep sc s n v)=[]:=by unfold textE;rw [if_pos hc]
  rw [ht]
  rw [hc] at C1
  clear hc ht
  unfold epdV at *
  go_enter Tryz.func20,Tryz.ntmps20
  go_wp2_with fail
  refine C1.out.mono ?_
  rintro e w1 ⟨rfl,hb⟩
  have HB:=hid hb
  clear hb
  go_wp2_with fail
  go_ret
  exact ⟨rfl,((Below.refl _ _).alloc nlr _).trans (HB.out.mono (le_alloc _ _))⟩
 | true =>
  rw [hc] at C1
  by_cases h1:sc=1
  ·
   subst h1
   obtain ⟨hn0,hv0,hnm⟩:=check_dtn hc rfl
   have hs64:s.size≤64:=by
    rw [ep_name] at hnm
    rw [Lib.size_eq]
    rcases hnm with h|h
    ·
     rw [h];simp
    ·
     obtain ⟨r,-,-,-,-,h⟩:=name_head h;exact h
   by_cases he:s.data.toList=[]
   ·
    have ht:=textE_none hc rfl (show (ep 1 s n v).name=[] from he)
    have hno:noneB (ep 1 s n v)=true:=by
     unfold noneB
     rw [hn0,hv0,show (ep 1 s n v).name=[] from he]
     rfl
    rw [hno] at C2
    rw [ht]
    clear hc ht hno hn0 hv0 hnm
    unfold epdV at *
    go_enter Tryz.func20,Tryz.ntmps20
    go_wp2_with fail
    refine C1.out.mono ?_
    rintro e w1 ⟨rfl,hb⟩
    have g1:=box_cells4 hb
    have HB:=hid hb
    clear hb
    obtain ⟨g10,g11,g12,g13⟩:=g1
    go_wp2_with fail
    refine (C2.out _).mono ?_
    rintro e w2 ⟨rfl,hb⟩
    have HB2:=hid hb
    clear hb
    go_wp2_with fail
    go_ret
    exact ⟨rfl,(((Below.refl _ _).alloc nlr _).trans (HB.out.mono (le_alloc _ _))).trans (HB2.out.mono (Nat.le_trans (le_alloc _ _) HB.out.size))⟩
   ·
    have ht:=textE_dtn hc rfl (show (ep 1 s n v).name≠[] from he)
    have hno:noneB (ep 1 s n v)=false:=by
     unfold noneB
     have:(ep 1 s n v).name.isEmpty=false:=by rw [ep_name];cases hh:s.data.toList with|nil=>exact absurd hh he|cons a l=>rfl
     rw [this,Bool.false_and,Bool.and_false]
    have eR:(⟨#[100,116,110,58]⟩:ByteArray)++s=strL (dtnL++s.data.toList):=by
     rw [← strL_app,strL_data];rfl
    rw [hno] at C2
    rw [ht,ep_name,← eR]
    clear hc ht hno hn0 hv0 hnm eR he
    unfold epdV at *
    go_enter Tryz.func20,Tryz.ntmps20
    go_wp2_with fail
    refine C1.out.mono ?_
    rintro e w1 ⟨rfl,hb⟩
    have g1:=box_cells4 hb
    have HB:=hid hb
    clear hb
    obtain ⟨g10,g11,g12,g13⟩:=g1
    go_wp2_with fail
    refine (C2.out _).mono ?_
    rintro e w2 ⟨rfl,hb⟩
    have hb':=hb.mono (Nat.le_trans nlr HB.out.size)
    have g2:=box_cells4 (HB.out.trans hb')
    have HB2:=hid hb
    clear hb hb'
    obtain ⟨g20,g21,g22,g23⟩:=g2
    go_wp2_with fail
    go_ret
    exact ⟨rfl,(((Below.refl _ _).alloc nlr _).trans (HB.out.mono (le_alloc _ _))).trans (HB2.out.mono (Nat.le_trans (le_alloc _ _) HB.out.size))⟩
  ·
   obtain ⟨h2,hnm,-,-,-⟩:=check_ipn hc h1
   have h2':sc=2:=h2
   subst h2'
   have ht:=textE_ipn hc rfl
   have hno:noneB (ep 2 s n v)=false:=rfl
   rw [hno] at C2
   rw [ht,show (ep 2 s n v).node=n from rfl,show (ep 2 s n v).service=v from rfl]
   clear hc ht hno hnm h1 h2
   unfold epdV at *
   go_enter Tryz.func20,Tryz.ntmps20
   go_wp2_with fail
   refine C1.out.mono ?_
   rintro e w1 ⟨rfl,hb⟩
   have g1:=box_cells4 hb
   have HB:=hid hb
   clear hb
   obtain ⟨g10,g11,g12,g13⟩:=g1
   go_wp2_with fail
   refine (C2.out _).mono ?_
   rintro e w2 ⟨rfl,hb⟩
   have hb':=hb.mono (Nat.le_trans nlr HB.out.size)
   have g2:=box_cells4 (HB.out.trans hb')
   have HB2:=hid hb
   clear hb hb'
   obtain ⟨g20,g21,g22,g23⟩:=g2
   go_wp2_with fail
   refine (C3.out _).mono ?_
   rintro e w3 ⟨rfl,hb⟩
   have HB3:=hid hb
   clear hb
   go_wp2_with fail
   go_ret
   exact ⟨rfl,((((Below.refl _ _).alloc nlr _).trans (HB.out.mono (le_alloc _ _))).trans (HB2.out.mono (Nat.le_trans (le_alloc _ _) HB.out.size))).trans (HB3.out.mono (Nat.le_trans (Nat.le_trans (le_alloc _ _) HB.out.size) HB2.out.size))⟩
def behI (e:Epd):Itm:=if e.scheme=2 then .mk 4 0 [] [.mk 0 e.node [] [],.mk 0 e.service [] []] else if e.name=[] then .mk 0 0 [] [] else .mk 3 0 e.name []
theorem itemE_beh (e:Epd):itemE e=.mk 4 0 [] [.mk 0 e.scheme.toNat [] [],behI e]:=rfl
theorem put4_cell {W:World} {g:Nat} {p:Addr} {u v0 v1 v2 v3:Value} (h:W.cell? p=some u) (hg:¬ g=p.block):((((W.setCell ⟨g,0,none⟩ v0).setCell ⟨g,1,none⟩ v1).setCell ⟨g,2,none⟩ v2).setCell ⟨g,3,none⟩ v3).cell? p=some u:=by
 rw [World.cell?_setCell_far _ _ _ _ hg,World.cell?_setCell_far _ _ _ _ hg,World.cell?_setCell_far _ _ _ _ hg,World.cell?_setCell_far _ _ _ _ hg]
 exact h
theorem RdIs.two_ {lo:Nat} {W:World} {a0 a1 a2 a3 b0 b1 b2 b3:Value} {x y:Itm} {t:TypeId} (hlo:lo≤W.heap.size) (h1:RdI (mask (lows lo) W) W.heap.size (.agg #[a0,a1,a2,a3]) x) (h2:RdI (mask (lows lo) W) W.heap.size (.agg #[b0,b1,b2,b3]) y) :
  RdIs (mask (lows lo) (W.alloc (.cells #[a0,a1,a2,a3,b0,b1,b2,b3] t))) (W.heap.size+1) W.heap.size 0 [x,y]:=by
 have hb:=(Below.refl W.heap.size W).alloc nlr (.cells #[a0,a1,a2,a3,b0,b1,b2,b3] t)
 have hs:(W.alloc (.cells #[a0,a1,a2,a3,b0,b1,b2,b3] t)).heap.size=W.heap.size+1:=by simp
 have k1:=h1.grow hb (Nat.le_refl lo)
 have k2:=h2.grow hb (Nat.le_refl lo)
 rw [hs] at k1 k2
 have hc:∀ j u,(#[a0,a1,a2,a3,b0,b1,b2,b3]:Array Value)[j]?=some u→(mask (lows lo) (W.alloc (.cells #[a0,a1,a2,a3,b0,b1,b2,b3] t))).cell? ⟨W.heap.size,j,none⟩=some u:=fun j u hj=>by
  rw [mask_cell (lows_f.2 hlo),World.cell?_alloc_at _ _ _ _ rfl]
  exact hj
 rw [RdIs,RdIs,RdIs]
 exact ⟨⟨a0,a1,a2,a3,hc 0 _ rfl,hc 1 _ rfl,hc 2 _ rfl,hc 3 _ rfl,k1⟩,⟨b0,b1,b2,b3,hc 4 _ rfl,hc 5 _ rfl,hc 6 _ rfl,hc 7 _ rfl,k2⟩,trivial⟩
theorem carray_two {lo:Nat} {W:World} {a0 a1 a2 a3 b0 b1 b2 b3:Value} {x y:Itm} (hlo:lo≤W.heap.size) (h1:RdI (mask (lows lo) W) W.heap.size (.agg #[a0,a1,a2,a3]) x) (h2:RdI (mask (lows lo) W) W.heap.size (.agg #[b0,b1,b2,b3]) y) (hp:pars [x,y]≤1000000) :
  Calls Tryz.prog 114 #[.slice (some ⟨W.heap.size,0,none⟩) 2 2] (W.alloc (.cells #[a0,a1,a2,a3,b0,b1,b2,b3] 30)) (GivesL lo (.mk 4 0 [] [x,y]) (W.alloc (.cells #[a0,a1,a2,a3,b0,b1,b2,b3] 30))) :=
 carrayS_any (lows lo) W.heap.size 0 2 2 (W.heap.size+1) [x,y] (W.alloc (.cells #[a0,a1,a2,a3,b0,b1,b2,b3] 30)) (fun k hk=>by have h1:=decide_eq_true_iff.1 hk;simp;omega) (Nat.le_of_eq (by simp)) (Nat.lt_succ_self _) (RdIs.two_ hlo h1 h2) rfl (by decide) hp nlr
theorem ebehind_any (sc:Int) (s:ByteArray) (n v:Nat) (w:World) (hc:checkB (ep sc s n v)=true) (hs:s.size≤140737488355328) (hn:n<18446744073709551616) (hv:v<18446744073709551616) :
  Calls Tryz.prog 116 #[epdV sc s n v] w (GivesL w.heap.size (behI (ep sc s n v)) w):=by
 have C2:=hid (fun W=>none_any sc s n v W)
 by_cases h1:sc=1
 ·
  subst h1
  obtain ⟨hn0,hv0,-⟩:=check_dtn hc rfl
  have CU:=hid (fun (lo:Nat) (W:World)=>cuintL_any lo 0 W (by decide))
  have CT:=hid (fun (lo:Nat) (W:World) h=>ctextL_any lo s W h hs)
  by_cases he:s.data.toList=[]
  ·
   have hno:noneB (ep 1 s n v)=true:=by
    unfold noneB
    rw [hn0,hv0,show (ep 1 s n v).name=[] from he]
    rfl
   have hbi:behI (ep 1 s n v)=.mk 0 0 [] []:=by
    unfold behI
    rw [if_neg (show ¬ (ep 1 s n v).scheme=2 by show ¬ (1:Int)=2;decide),if_pos (show (ep 1 s n v).name=[] from he)]
   rw [hno] at C2
   rw [hbi]
   clear hc hno hbi hn0 hv0 he
   unfold epdV at *
   go_enter Tryz.func116,Tryz.ntmps116
   go_wp2_with fail
   refine (C2.out _).mono ?_
   rintro e w1 ⟨rfl,hb⟩
   have HB:=hid hb
   clear hb
   go_wp2_with fail
   refine (CU.out (w.heap.size+2) _).mono ?_
   rintro e w2 ⟨v2,rfl,hv2,hb⟩
   obtain ⟨k2,n2,A2,nd2,cd2,AL2,nl2,cl2,rfl⟩:=hv2.form
   have hb2:=(HB.out.trans (hb.mono HB.out.size)).mono (show w.heap.size+2≤_ by simp)
   obtain ⟨⟨z0,z1,z2,z3⟩,f0,f1,f2,f3⟩:=zero4 (g:=w.heap.size+1) (by simp) hb2
   have HB2:=hid hb2
   have HV2:=hid hv2
   clear hb hb2 hv2
   go_wp2_with fail
   refine bodyPost_ret (v:=.agg #[.int .i64 k2,.int .u64 (n2:Int),.slice A2 nd2 cd2,.slice AL2 nl2 cl2]) (by simp [results,Tryz.results116,go_sem,z0,z1,z2,z3]) rfl ⟨_,rfl,?_,?_⟩
   ·
    exact HV2.out.put4 (Nat.le_add_right _ 2) (Nat.lt_succ_self _) (Nat.le_of_eq size_put4.symm)
   ·
    exact below_set4 ((((Below.refl _ _).alloc nlr _).alloc (le_alloc _ _) _).trans (HB2.out.mono (Nat.le_add_right _ 2))) (Nat.le_succ _)
  ·
   have hno:noneB (ep 1 s n v)=false:=by
    unfold noneB
    have:(ep 1 s n v).name.isEmpty=false:=by rw [ep_name];cases hh:s.data.toList with|nil=>exact absurd hh he|cons a l=>rfl
    rw [this,Bool.false_and,Bool.and_false]
   have hbi:behI (ep 1 s n v)=.mk 3 0 s.data.toList []:=by
    unfold behI
    rw [if_neg (show ¬ (ep 1 s n v).scheme=2 by show ¬ (1:Int)=2;decide),if_neg (show ¬ (ep 1 s n v).name=[] from he)]
    rfl
   rw [hno] at C2
   rw [hbi]
   clear hc hno hbi hn0 hv0 he
   unfold epdV at *
   go_enter Tryz.func116,Tryz.ntmps116
   go_wp2_with fail
   refine (C2.out _).mono ?_
   rintro e w1 ⟨rfl,hb⟩
   have g1:=box_cells4 ((((Below.refl (w.alloc (.cells #[.int .i64 1,.string s,.int .u64 (n:Int),.int .u64 (v:Int)] 25)).heap.size _).alloc nlr _)).trans (hb.mono (le_alloc _ _)))
   have HB:=hid hb
   clear hb
   obtain ⟨g10,g11,g12,g13⟩:=g1
   go_wp2_with fail
   refine (CT.out (w.heap.size+2) _ (by have h:=HB.out.size;simpa using h)).mono ?_
   rintro e w2 ⟨v2,rfl,hv2,hb⟩
   obtain ⟨k2,n2,A2,nd2,cd2,AL2,nl2,cl2,rfl⟩:=hv2.form
   have hb2:=(HB.out.trans (hb.mono HB.out.size)).mono (show w.heap.size+2≤_ by simp)
   obtain ⟨⟨z0,z1,z2,z3⟩,f0,f1,f2,f3⟩:=zero4 (g:=w.heap.size+1) (by simp) hb2
   have HB2:=hid hb2
   have HV2:=hid hv2
   clear hb hb2 hv2
   go_wp2_with fail
   refine bodyPost_ret (v:=.agg #[.int .i64 k2,.int .u64 (n2:Int),.slice A2 nd2 cd2,.slice AL2 nl2 cl2]) (by simp [results,Tryz.results116,go_sem,z0,z1,z2,z3]) rfl ⟨_,rfl,?_,?_⟩
   ·
    exact HV2.out.put4 (Nat.le_add_right _ 2) (Nat.lt_succ_self _) (Nat.le_of_eq size_put4.symm)
   ·
    exact below_set4 ((((Below.refl _ _).alloc nlr _).alloc (le_alloc _ _) _).trans (HB2.out.mono (Nat.le_add_right _ 2))) (Nat.le_succ _)
 ·
  obtain ⟨h2,hnm,-,-,-⟩:=check_ipn hc h1
  have h2':sc=2:=h2
  subst h2'
  have hno:noneB (ep 2 s n v)=false:=rfl
  have hbi:behI (ep 2 s n v)=.mk 4 0 [] [.mk 0 n [] [],.mk 0 v [] []]:=rfl
  rw [hno] at C2
  rw [hbi]
  have CU1:=hid (fun (W:World)=>cuintL_any (w.heap.size+2) n W hn)
  have CU2:=hid (fun (W:World)=>cuintL_any (w.heap.size+2) v W hv)
  have hpar:pars [.mk 0 n [] [],.mk 0 v [] []]≤1000000:=by simp [pars,par]
  have HPAR:=hid hpar
  clear hc hno hbi hnm h1 h2 hpar
  unfold epdV at *
  go_enter Tryz.func116,Tryz.ntmps116
  go_wp2_with fail
  refine (C2.out _).mono ?_
  rintro e w1 ⟨rfl,hb⟩
  have g1:=box_cells4 ((((Below.refl (w.alloc (.cells #[.int .i64 2,.string s,.int .u64 (n:Int),.int .u64 (v:Int)] 25)).heap.size _).alloc nlr _)).trans (hb.mono (le_alloc _ _)))
  have HB:=hid (hb.mono (show w.heap.size+2≤_ by simp))
  have HZ1:Hid (w.heap.size+2≤w1.heap.size):=by show _≤_;have h:=hb.size;simpa using h
  clear hb
  obtain ⟨g10,g11,g12,g13⟩:=g1
  go_wp2_with fail
  have HNE:Hid (¬ w.heap.size+1=w.heap.size):=Nat.succ_ne_self _
  have hlt0:w.heap.size<w1.heap.size:=Nat.lt_of_lt_of_le (by omega) HZ1.out
  go_region_held3 (fun W=>W.cell? ⟨w.heap.size,2,none⟩=some (.int .u64 (n:Int))∧W.cell? ⟨w.heap.size,3,none⟩=some (.int .u64 (v:Int)))
   (first|(with_reducible exact ⟨x2,x3⟩)|(with_reducible exact ⟨put4_cell x2 HNE.out,put4_cell x3 HNE.out⟩)|(with_reducible exact ⟨u2,u3⟩)|(with_reducible exact ⟨(World.cell?_alloc_lt w3 _ ⟨w.heap.size,2,none⟩ H3.out).trans u2,(World.cell?_alloc_lt w3 _ ⟨w.heap.size,3,none⟩ H3.out).trans u3⟩)|(with_reducible exact ⟨t2,t3⟩)|(exact ⟨g12,g13⟩)|fail)
   (first
    | (go_at_call 115;have _g:=V2;clear _g;refine (CU2.out _).mono ?_;rintro e w3 ⟨v3,rfl,hv3,hb3⟩;have V3:=hid (V2.out.grow hb3 nlr);have hb3':=B2.out.trans (hb3.mono B2.out.size);have u2:=(hb3'.cell (p:=⟨w.heap.size,2,none⟩) hlt0).trans g12;have u3:=(hb3'.cell (p:=⟨w.heap.size,3,none⟩) hlt0).trans g13;obtain ⟨k3,n3,A3,nd3,cd3,AL3,nl3,cl3,rfl⟩:=hv3.form;have W3:=hid hv3;have B3:=hid hb3';have H3:Hid (w.heap.size<w3.heap.size):=Nat.lt_of_lt_of_le hlt0 hb3'.size;clear hv3 hb3 hb3')
    | (go_at_call 115;refine (CU1.out _).mono ?_;rintro e w2 ⟨v2,rfl,hv2,hb2⟩;have hb2':Below w1.heap.size w1 w2:=Below.drew_.trans hb2;have t2:=(hb2'.cell (p:=⟨w.heap.size,2,none⟩) hlt0).trans g12;have t3:=(hb2'.cell (p:=⟨w.heap.size,3,none⟩) hlt0).trans g13;obtain ⟨k2,n2,A2,nd2,cd2,AL2,nl2,cl2,rfl⟩:=hv2.form;have V2:=hid hv2;have B2:=hid hb2';clear hv2 hb2 hb2')
    | (go_at_call 114;refine (carray_two (Nat.le_trans HZ1.out B3.out.size) V3.out W3.out HPAR.out).mono ?_;rintro e w4 ⟨v4,rfl,hv4,hb4⟩;have hb4':=(B3.out.alloc B3.out.size _).trans (hb4.mono (Nat.le_trans B3.out.size (le_alloc _ _)));have x2:=(hb4'.cell (p:=⟨w.heap.size,2,none⟩) hlt0).trans g12;have x3:=(hb4'.cell (p:=⟨w.heap.size,3,none⟩) hlt0).trans g13;obtain ⟨k4,n4,A4,nd4,cd4,AL4,nl4,cl4,rfl⟩:=hv4.form;have V4:=hid hv4;have hb5:=HB.out.trans (hb4'.mono HZ1.out);obtain ⟨⟨z0,z1,z2,z3⟩,f0,f1,f2,f3⟩:=zero4 (g:=w.heap.size+1) (by simp) hb5;have B4:=hid hb5;clear hv4 hb4 hb4' hb5)
    | fail)
  go_wp2_with fail
  refine bodyPost_ret (v:=.agg #[.int .i64 k4,.int .u64 (n4:Int),.slice A4 nd4 cd4,.slice AL4 nl4 cl4]) (by simp [results,Tryz.results116,go_sem,z0,z1,z2,z3]) rfl ⟨_,rfl,?_,?_⟩
  ·
   exact V4.out.put4 (Nat.le_add_right _ 2) (Nat.lt_succ_self _) (Nat.le_of_eq size_put4.symm)
  ·
   exact below_set4 ((((Below.refl _ _).alloc nlr _).alloc (le_alloc _ _) _).trans (B4.out.mono (Nat.le_add_right _ 2))) (Nat.le_succ _)
def zeroItem:Value:=.agg #[.int .i64 0,.int .u64 0,.slice none 0 0,.slice none 0 0]
def eflt (s:ByteArray) (v:Value):Value:=.iface 149 (.agg #[.string s,v])
def Writ (A:Snt) (E:Epd) (w:World) (e:Ending) (w':World):Prop:=Below w.heap.size w w' ∧
 ((checkB E=true∧∃ v,e=.returned (.tuple #[v,.nilIface])∧RdI (mask (lows w.heap.size) w') w'.heap.size v (itemE E)) ∨
  (checkB E=false∧∃ a s,OneOf A a∧e=.returned (.tuple #[zeroItem,eflt s (snt a)])))
theorem par_beh (e:Epd):pars [.mk 0 e.scheme.toNat [] [],behI e]≤1000000:=by
 unfold behI
 split
 ·
  simp [pars,par]
 ·
  split <;> simp [pars,par]
theorem written_any (A:Snt) (sc:Int) (s:ByteArray) (n v:Nat) (w:World) (hA:Lds A w) (hs:s.size≤140737488355328) (hn:n<18446744073709551616) (hv:v<18446744073709551616) :
  Calls Tryz.prog 65 #[epdV sc s n v] w (Writ A (ep sc s n v) w):=by
 have hA2:=(hA.alloc (.cells #[.int .i64 sc,.string s,.int .u64 (n:Int),.int .u64 (v:Int)] 25)).alloc (.cells #[.int .i64 0,.int .u64 0,.slice none 0 0,.slice none 0 0] 30)
 have C1:=hid (echeck_any A sc s n v _ hA2 hs)
 have q1:=fun (W:World) (u:TypeId) (x:Value)=>run_neq_iface_nil (P:=Tryz.prog) (w:=W) 95 (by kernel_rfl) u x
 clear hA hA2
 cases hc:checkB (ep sc s n v) with
 | false =>
  rw [hc] at C1
  have HW:Hid (∀ e w',Below w.heap.size w w'→(∃ a s,OneOf A a∧e=.returned (.tuple #[zeroItem,eflt s (snt a)]))→Writ A (ep sc s n v) w e w'):=fun e w' h1 h2=>⟨h1,.inr ⟨hc,h2⟩⟩
  clear hc
  unfold epdV at *
  go_enter Tryz.func65,Tryz.ntmps65
  go_wp2_with fail
  refine C1.out.mono ?_
  rintro e w1 ⟨hb,⟨h,-⟩|⟨-,a,ha,rfl⟩⟩
  ·
   cases h
  have hb2:=hb.mono (show w.heap.size+2≤_ by simp)
  obtain ⟨⟨z0,z1,z2,z3⟩,f0,f1,f2,f3⟩:=zero4 (g:=w.heap.size+1) (by simp) hb2
  have HB2:=hid hb2
  have HO:=hid ha
  clear hb hb2 ha
  unfold snt
  go_wp2_with fail
  refine bodyPost_ret (v:=.tuple #[zeroItem,eflt ⟨#[101,110,100,112,111,105,110,116]⟩ (snt a)]) (by simp [results,Tryz.results65,go_sem,z0,z1,z2,z3,zeroItem,eflt,snt]) rfl (HW.out _ _ ?_ ⟨a,_,HO.out,rfl⟩)
  exact below_set4 ((((Below.refl _ _).alloc nlr _).alloc (le_alloc _ _) _).trans (HB2.out.mono (Nat.le_add_right _ 2))) (Nat.le_succ _)
 | true =>
  rw [hc] at C1
  have hpar:=par_beh (ep sc s n v)
  have hit:=itemE_beh (ep sc s n v)
  rw [show (ep sc s n v).scheme=sc from rfl] at hpar hit
  have CB:=hid (fun (W:World)=>ebehind_any sc s n v W hc hs hn hv)
  have HW:Hid (∀ e w',Below w.heap.size w w'→(∃ v0,e=.returned (.tuple #[v0,.nilIface])∧RdI (mask (lows w.heap.size) w') w'.heap.size v0 (.mk 4 0 [] [.mk 0 sc.toNat [] [],behI (ep sc s n v)]))→Writ A (ep sc s n v) w e w'):=fun e w' h1 h2=>⟨h1,.inl ⟨hc,by rw [hit];exact h2⟩⟩
  have h12:sc=1∨sc=2:=by
   by_cases h1:sc=1
   ·
    exact .inl h1
   ·
    exact .inr (check_ipn hc h1).1
  have hwr:IntKind.u64.wrap sc=sc:=by rcases h12 with rfl|rfl <;> rfl
  have CU:Hid (∀ (W:World),Calls Tryz.prog 115 #[.int .u64 (IntKind.u64.wrap sc)] W (GivesL (w.heap.size+2) (.mk 0 sc.toNat [] []) W)):=fun W=>by
   rw [hwr]
   have h:=cuintL_any (w.heap.size+2) sc.toNat W (by rcases h12 with rfl|rfl <;> decide)
   rw [show ((sc.toNat:Nat):Int)=sc by rcases h12 with rfl|rfl <;> rfl] at h
   exact h
  have HPAR:=hid hpar
  generalize behI (ep sc s n v)=bi at *
  clear hc hit hpar h12 hwr
  unfold epdV at *
  generalize sc.toNat=scn at *
  go_enter Tryz.func65,Tryz.ntmps65
  go_wp2_with fail
  refine C1.out.mono ?_
  rintro e w1 ⟨hb,⟨-,rfl⟩|⟨h,-⟩⟩
  case inr=>cases h
  have g1:=box_cells4 ((((Below.refl (w.alloc (.cells #[.int .i64 sc,.string s,.int .u64 (n:Int),.int .u64 (v:Int)] 25)).heap.size _).alloc nlr _)).trans (hb.mono (le_alloc _ _)))
  have HB:=hid (hb.mono (show w.heap.size+2≤_ by simp))
  have HZ1:Hid (w.heap.size+2≤w1.heap.size):=by show _≤_;have h:=hb.size;simpa using h
  clear hb
  obtain ⟨g10,g11,g12,g13⟩:=g1
  have HNE:Hid (¬ w.heap.size+1=w.heap.size):=Nat.succ_ne_self _
  go_wp2_with fail
  have hlt0:w.heap.size<w1.heap.size:=Nat.lt_of_lt_of_le (by omega) HZ1.out
  go_region_held3 (fun W=>W.cell? ⟨w.heap.size,0,none⟩=some (.int .i64 sc)∧W.cell? ⟨w.heap.size,1,none⟩=some (.string s)∧W.cell? ⟨w.heap.size,2,none⟩=some (.int .u64 (n:Int))∧W.cell? ⟨w.heap.size,3,none⟩=some (.int .u64 (v:Int)))
   (first|(with_reducible exact ⟨x0,x1,x2,x3⟩)|(with_reducible exact ⟨put4_cell x0 HNE.out,put4_cell x1 HNE.out,put4_cell x2 HNE.out,put4_cell x3 HNE.out⟩)|(with_reducible exact ⟨u0,u1,u2,u3⟩)|(with_reducible exact ⟨(World.cell?_alloc_lt w3 _ ⟨w.heap.size,0,none⟩ H3.out).trans u0,(World.cell?_alloc_lt w3 _ ⟨w.heap.size,1,none⟩ H3.out).trans u1,(World.cell?_alloc_lt w3 _ ⟨w.heap.size,2,none⟩ H3.out).trans u2,(World.cell?_alloc_lt w3 _ ⟨w.heap.size,3,none⟩ H3.out).trans u3⟩)|(with_reducible exact ⟨t0,t1,t2,t3⟩)|(exact ⟨g10,g11,g12,g13⟩)|fail)
   (first
    | (go_at_call 115;refine (CU.out _).mono ?_;rintro e w2 ⟨v2,rfl,hv2,hb2⟩;have hb2':Below w1.heap.size w1 w2:=Below.drew_.trans hb2;have t0:=(hb2'.cell (p:=⟨w.heap.size,0,none⟩) hlt0).trans g10;have t1:=(hb2'.cell (p:=⟨w.heap.size,1,none⟩) hlt0).trans g11;have t2:=(hb2'.cell (p:=⟨w.heap.size,2,none⟩) hlt0).trans g12;have t3:=(hb2'.cell (p:=⟨w.heap.size,3,none⟩) hlt0).trans g13;obtain ⟨k2,n2,A2,nd2,cd2,AL2,nl2,cl2,rfl⟩:=hv2.form;have V2:=hid hv2;have B2:=hid hb2';clear hv2 hb2 hb2')
    | (go_at_call 116;refine (CB.out _).mono ?_;rintro e w3 ⟨v3,rfl,hv3,hb3⟩;have V3:=hid (V2.out.grow hb3 nlr);have W3:=hid (hv3.grow (Below.refl _ _) (Nat.le_trans HZ1.out B2.out.size));have hb3':=B2.out.trans (hb3.mono B2.out.size);have u0:=(hb3'.cell (p:=⟨w.heap.size,0,none⟩) hlt0).trans g10;have u1:=(hb3'.cell (p:=⟨w.heap.size,1,none⟩) hlt0).trans g11;have u2:=(hb3'.cell (p:=⟨w.heap.size,2,none⟩) hlt0).trans g12;have u3:=(hb3'.cell (p:=⟨w.heap.size,3,none⟩) hlt0).trans g13;obtain ⟨k3,n3,A3,nd3,cd3,AL3,nl3,cl3,rfl⟩:=hv3.form;have B3:=hid hb3';have H3:Hid (w.heap.size<w3.heap.size):=Nat.lt_of_lt_of_le hlt0 hb3'.size;clear hv3 hb3 hb3')
    | (go_at_call 114;refine (carray_two (Nat.le_trans HZ1.out B3.out.size) V3.out W3.out HPAR.out).mono ?_;rintro e w4 ⟨v4,rfl,hv4,hb4⟩;have hb4':=(B3.out.alloc B3.out.size _).trans (hb4.mono (Nat.le_trans B3.out.size (le_alloc _ _)));have x0:=(hb4'.cell (p:=⟨w.heap.size,0,none⟩) hlt0).trans g10;have x1:=(hb4'.cell (p:=⟨w.heap.size,1,none⟩) hlt0).trans g11;have x2:=(hb4'.cell (p:=⟨w.heap.size,2,none⟩) hlt0).trans g12;have x3:=(hb4'.cell (p:=⟨w.heap.size,3,none⟩) hlt0).trans g13;obtain ⟨k4,n4,A4,nd4,cd4,AL4,nl4,cl4,rfl⟩:=hv4.form;have V4:=hid hv4;have hb5:=HB.out.trans (hb4'.mono HZ1.out);obtain ⟨⟨z0,z1,z2,z3⟩,f0,f1,f2,f3⟩:=zero4 (g:=w.heap.size+1) (by simp) hb5;have B4:=hid hb5;clear hv4 hb4 hb4' hb5)
    | fail)
  go_wp2_with fail
  refine bodyPost_ret (v:=.tuple #[.agg #[.int .i64 k4,.int .u64 (n4:Int),.slice A4 nd4 cd4,.slice AL4 nl4 cl4],.nilIface]) (by simp [results,Tryz.results65,go_sem,z0,z1,z2,z3]) rfl (HW.out _ _ ?_ ⟨_,rfl,?_⟩)
  ·
   exact below_set4 ((((Below.refl _ _).alloc nlr _).alloc (le_alloc _ _) _).trans (B4.out.mono (Nat.le_add_right _ 2))) (Nat.le_succ _)
  ·
   exact V4.out.put4 (Nat.le_add_right _ 2) (Nat.lt_succ_self _) (Nat.le_of_eq size_put4.symm)
theorem zeroE {w W':World} {g:Nat} (hg:g=w.heap.size) (h:Below (g+1) (w.alloc (.cells #[.int .i64 0,.string ⟨#[]⟩,.int .u64 0,.int .u64 0] 25)) W') :
  (W'.cell? ⟨g,0,none⟩=some (.int .i64 0)∧W'.cell? ⟨g,1,none⟩=some (.string ⟨#[]⟩)∧W'.cell? ⟨g,2,none⟩=some (.int .u64 0)∧W'.cell? ⟨g,3,none⟩=some (.int .u64 0)) ∧
  (W'.frozen? ⟨g,0,none⟩=false∧W'.frozen? ⟨g,1,none⟩=false∧W'.frozen? ⟨g,2,none⟩=false∧W'.frozen? ⟨g,3,none⟩=false):=by
 subst hg
 exact ⟨box_cells4 (h.mono (by simp)),(h.frozen (p:=⟨w.heap.size,0,none⟩) (Nat.lt_succ_self _)).trans (by simp),(h.frozen (p:=⟨w.heap.size,1,none⟩) (Nat.lt_succ_self _)).trans (by simp),(h.frozen (p:=⟨w.heap.size,2,none⟩) (Nat.lt_succ_self _)).trans (by simp),(h.frozen (p:=⟨w.heap.size,3,none⟩) (Nat.lt_succ_self _)).trans (by simp)⟩
theorem below_put4 {B g:Nat} {w W':World} {u0 u1 u2 u3:Value} (h:Below B w W') (hg:B≤g):Below B w ((((W'.setCell ⟨g,0,none⟩ u0).setCell ⟨g,1,none⟩ u1).setCell ⟨g,2,none⟩ u2).setCell ⟨g,3,none⟩ u3) :=
 (((h.setCell (p:=⟨g,0,none⟩) hg _).setCell (p:=⟨g,1,none⟩) hg _).setCell (p:=⟨g,2,none⟩) hg _).setCell (p:=⟨g,3,none⟩) hg _
theorem sclone_any (s:ByteArray) (w:World) (hs:s.size≤140737488355328) :
  Calls Tryz.prog 156 #[.string s] w fun e w'=>e=.returned (.string s)∧Below w.heap.size w w':=by
 have C1:=hid (Tryz.stringslite_Clone s w (by omega))
 go_enter Tryz.func156,Tryz.ntmps156
 go_wp2_with fail
 refine C1.out.mono ?_
 rintro e w1 ⟨rfl,hb⟩
 have HB:=hid hb
 clear hb
 go_wp2_with fail
 go_ret
 exact ⟨rfl,HB.out⟩
def Took (x:Itm) (w:World) (e:Ending) (w':World):Prop:=Below w.heap.size w w' ∧
  ∃ (sc:Int) (s:ByteArray) (n v:Nat),e=.returned (epdV sc s n v)∧s.size≤140737488355328∧n<18446744073709551616∧v<18446744073709551616∧∀ e',checkB e'=true→itemE e'=x→e'=ep sc s n v
theorem itm_two {e:Epd} {k:Int} {m:Nat} {d:List UInt8} {l:List Itm} (h:itemE e=.mk k m d l):l=[.mk 0 e.scheme.toNat [] [],behI e]:=by
  rw [itemE_beh] at h
  injection h with _ _ _ h
  exact h.symm
theorem took_pure {e:Epd} (hc:checkB e=true) {k k0 k1:Int} {m n0 n1:Nat} {d d0 d1:List UInt8} {l0 l1:List Itm} (h:itemE e=.mk k m d [.mk k0 n0 d0 l0,.mk k1 n1 d1 l1]) :
    e.scheme=(n0:Int)∧(n0=1∨n0=2)∧e.name=d1∧((l1=[]∧e.node=0∧e.service=0)∨l1=[.mk 0 e.node [] [],.mk 0 e.service [] []]):=by
  have h2:=itm_two h
  simp only [List.cons.injEq,Itm.mk.injEq,and_true] at h2
  obtain ⟨⟨-,hn0,-,-⟩,hb⟩:=h2
  unfold behI at hb
  by_cases h1:e.scheme=1
  · obtain ⟨hn,hs,-⟩:=check_dtn hc h1
    rw [if_neg (by rw [h1];decide)] at hb
    by_cases hnm:e.name=[]
    · rw [if_pos hnm] at hb
      simp only [Itm.mk.injEq] at hb
      exact ⟨by rw [hn0,h1];rfl,.inl (by rw [hn0,h1];rfl),by rw [hnm];exact hb.2.2.1.symm,.inl ⟨hb.2.2.2,hn,hs⟩⟩
    · rw [if_neg hnm] at hb
      simp only [Itm.mk.injEq] at hb
      exact ⟨by rw [hn0,h1];rfl,.inl (by rw [hn0,h1];rfl),hb.2.2.1.symm,.inl ⟨hb.2.2.2,hn,hs⟩⟩
  · obtain ⟨h2,hnm,-,-,-⟩:=check_ipn hc h1
    rw [if_pos h2] at hb
    simp only [Itm.mk.injEq] at hb
    exact ⟨by rw [hn0,h2];rfl,.inr (by rw [hn0,h2];rfl),by rw [hnm];exact hb.2.2.1.symm,.inr hb.2.2.2⟩
theorem wrap_scheme {n:Nat} (h:n=1∨n=2):wrap64 (n:Int)=(n:Int):=by unfold wrap64;omega
theorem taken_any (x:Itm) (v:Value) (B:Nat) (w:World) (hB:B≤w.heap.size) (h:RdI w B v x) :
    Calls Tryz.prog 123 #[v] w (Took x w):=by
  obtain ⟨k,m,d,l⟩:=x
  obtain ⟨A,nd,cd,AL,cl,rfl,-,-,-,-,hl,hrow⟩:=h.open
  have HB0:Hid (Below w.heap.size w ((w.alloc (.cells #[.int .i64 k,.int .u64 (m:Int),.slice A nd cd,.slice AL l.length cl] 30)).alloc (.cells #[.int .i64 0,.string ⟨#[]⟩,.int .u64 0,.int .u64 0] 25))):=((Below.refl _ _).alloc nlr _).alloc (le_alloc _ _) _
  clear h
  by_cases h2:l.length=2
  · obtain ⟨x0,x1,rfl⟩:∃ x0 x1,l=[x0,x1]:=by
      match l,h2 with
      | [x0,x1],_=>exact ⟨x0,x1,rfl⟩
    obtain ⟨b,o,rfl,hb,hs⟩:=hrow (by simp)
    clear hrow hl h2
    rw [show ([x0,x1]:List Itm).length=2 from rfl] at *
    rw [RdIs,RdIs] at hs
    obtain ⟨⟨c0,c1,c2,c3,g0,g1,g2,g3,hx0⟩,⟨e0,e1,e2,e3,q0,q1,q2,q3,hx1⟩,-⟩:=hs
    obtain ⟨k0,n0,d0,l0⟩:=x0
    obtain ⟨k1,n1,d1,l1⟩:=x1
    obtain ⟨A0,nd0,cd0,AL0,cl0,he0,-,hn0,-,-,-,-⟩:=hx0.open
    obtain ⟨A1,nd1,cd1,AL1,cl1,he1,-,-,hd1,hrd1,hl1,hrow1⟩:=hx1.open
    injection he0 with he0
    simp only [Array.mk.injEq,List.cons.injEq,and_true] at he0
    obtain ⟨rfl,rfl,rfl,rfl⟩:=he0
    injection he1 with he1
    simp only [Array.mk.injEq,List.cons.injEq,and_true] at he1
    obtain ⟨rfl,rfl,rfl,rfl⟩:=he1
    obtain ⟨W3,hW3⟩:∃ W3,W3=(((w.alloc (.cells #[.int .i64 k,.int .u64 (m:Int),.slice A nd cd,.slice (some ⟨b,o,none⟩) 2 cl] 30)).alloc (.cells #[.int .i64 0,.string ⟨#[]⟩,.int .u64 0,.int .u64 0] 25)).alloc (.cells #[.int .i64 k1,.int .u64 (n1:Int),.slice A1 nd1 cd1,.slice AL1 l1.length cl1] 30)):=⟨_,rfl⟩
    have hb3:Below w.heap.size w W3:=by rw [hW3];exact HB0.out.alloc (by simp;omega) _
    have hrd3:=hrd1.below (hb3.mono hB)
    have hstr1:(convert 27 9 (.slice A1 nd1 cd1)).run Tryz.prog W3.drew=.ok (.string ⟨d1.toArray⟩) W3.drew:=run_str (hrd3.below (Below.drew_ (B:=B))) _ 5 _ Tryz.underlying27 Tryz.underlying5 Tryz.underlying9
    have hlt:b<w.heap.size:=Nat.lt_of_lt_of_le hb hB
    have kk:∀ j u,w.cell? ⟨b,j,none⟩=some u→W3.cell? ⟨b,j,none⟩=some u:=fun j u hc=>(hb3.cell (p:=⟨b,j,none⟩) hlt).trans hc
    have r1:=kk _ _ g1
    have s0:=kk _ _ q0
    have s1:=kk _ _ q1
    have s2:=kk _ _ q2
    have s3:=kk _ _ q3
    have hz3:W3.heap.size=w.heap.size+3:=by rw [hW3];simp
    have hb31:Below (w.alloc (.cells #[.int .i64 k,.int .u64 (m:Int),.slice A nd cd,.slice (some ⟨b,o,none⟩) 2 cl] 30)).heap.size (w.alloc (.cells #[.int .i64 k,.int .u64 (m:Int),.slice A nd cd,.slice (some ⟨b,o,none⟩) 2 cl] 30)) W3:=by
      rw [hW3];exact ((Below.refl _ _).alloc nlr _).alloc (le_alloc _ _) _
    obtain ⟨-,-,-,t3⟩:=box_cells4 hb31
    have hat:∀ j u,(#[.int .i64 k1,.int .u64 (n1:Int),.slice A1 nd1 cd1,.slice AL1 l1.length cl1]:Array Value)[j]?=some u→W3.cell? ⟨w.heap.size+1+1,j,none⟩=some u:=fun j u hj=>by
      rw [hW3,World.cell?_alloc_at _ _ _ _ (by simp)];exact hj
    have t32:=hat 2 _ rfl
    have t33:=hat 3 _ rfl
    have HBE:=hid (show Below (w.heap.size+1+1) ((w.alloc (.cells #[.int .i64 k,.int .u64 (m:Int),.slice A nd cd,.slice (some ⟨b,o,none⟩) 2 cl] 30)).alloc (.cells #[.int .i64 0,.string ⟨#[]⟩,.int .u64 0,.int .u64 0] 25)) W3 by rw [hW3];exact (Below.refl _ _).alloc (by simp) _)
    have HROW:=hid hrow1
    have HX:=hid hx1
    have HB3:=hid hb3
    have HZ3:=hid hz3
    have HN:=hid (And.intro hn0 (And.intro hd1 hrd1.1))
    have hstr2:=fun (W:World) (hw:Below W3.heap.size W3 W)=>run_str (P:=Tryz.prog) (c:=cd1) ((hrd1.below (hb3.mono hB)).below (hw.mono (Nat.le_trans hB hb3.size))) 27 5 9 Tryz.underlying27 Tryz.underlying5 Tryz.underlying9
    have hstr3:=hstr2 (W3.alloc (.cells #[.int .i64 0,.string ⟨#[]⟩,.int .u64 0,.int .u64 0] 25)) ((Below.refl _ _).alloc nlr _)
    have hstr4:=hstr2 (W3.alloc (.cells #[.int .i64 0,.string ⟨#[]⟩,.int .u64 0,.int .u64 0] 25)).drew ((Below.refl _ _).alloc nlr _).drew
    have kA:∀ (ob:Obj) {p:Addr} {u:Value},W3.cell? p=some u→(W3.alloc ob).cell? p=some u:=fun ob _ _ hc=>(World.cell?_alloc_lt W3 _ _ (World.block_lt_of_cell? W3 _ hc)).trans hc
    have t3a:=fun ob=>kA ob t3
    have t32a:=fun ob=>kA ob t32
    have t33a:=fun ob=>kA ob t33
    have r1a:=fun ob=>kA ob r1
    obtain ⟨⟨zz0,zz1,zz2,zz3⟩,ff0,ff1,ff2,ff3⟩:=zeroE (g:=w.heap.size+1) (by simp) HBE.out
    have z0:=fun ob=>kA ob zz0
    have z1:=fun ob=>kA ob zz1
    have z2:=fun ob=>kA ob zz2
    have z3:=fun ob=>kA ob zz3
    have fA:∀ (ob:Obj) (j:Nat),W3.frozen? ⟨w.heap.size+1,j,none⟩=false→(W3.alloc ob).frozen? ⟨w.heap.size+1,j,none⟩=false:=fun ob j hf=>(World.frozen?_alloc_old W3 _ ⟨w.heap.size+1,j,none⟩ (by have:=HZ3.out;show w.heap.size+1≠_;omega)).trans hf
    have f0:=fun ob=>fA ob 0 ff0
    have f1:=fun ob=>fA ob 1 ff1
    have f2:=fun ob=>fA ob 2 ff2
    have f3:=fun ob=>fA ob 3 ff3
    have HFIN:Hid (∀ (c:Array Value) (u0 u1 u2 u3:Value) (W:World),Below W3.heap.size (W3.alloc (.cells c 25)) W→Below w.heap.size w ((((W.setCell ⟨w.heap.size+1,0,none⟩ u0).setCell ⟨w.heap.size+1,1,none⟩ u1).setCell ⟨w.heap.size+1,2,none⟩ u2).setCell ⟨w.heap.size+1,3,none⟩ u3)):=fun c u0 u1 u2 u3 W hb =>
      below_put4 ((HB3.out.trans (((Below.refl W3.heap.size W3).alloc nlr _).mono HB3.out.size)).trans (hb.mono HB3.out.size)) (Nat.le_succ _)
    clear fA zz0 zz1 zz2 zz3 ff0 ff1 ff2 ff3 hstr2
    by_cases hl2:l1.length=2
    · obtain ⟨y0,y1,rfl⟩:∃ y0 y1,l1=[y0,y1]:=by
        match l1,hl2 with
        | [y0,y1],_=>exact ⟨y0,y1,rfl⟩
      obtain ⟨b1,o1,rfl,hb1,hs1⟩:=hrow1 (by simp)
      rw [RdIs,RdIs] at hs1
      obtain ⟨⟨a0,a1,a2,a3,-,i1,-,-,hy0⟩,⟨b0',b1',b2',b3',-,j1,-,-,hy1⟩,-⟩:=hs1
      obtain ⟨ky0,ny0,dy0,ly0⟩:=y0
      obtain ⟨ky1,ny1,dy1,ly1⟩:=y1
      obtain ⟨_,_,_,_,_,hey0,-,hny0,-,-,-,-⟩:=hy0.open
      obtain ⟨_,_,_,_,_,hey1,-,hny1,-,-,-,-⟩:=hy1.open
      injection hey0 with hey0
      injection hey1 with hey1
      simp only [Array.mk.injEq,List.cons.injEq,and_true] at hey0 hey1
      obtain ⟨rfl,rfl,rfl,rfl⟩:=hey0
      obtain ⟨rfl,rfl,rfl,rfl⟩:=hey1
      have hl1b:b1<w.heap.size:=Nat.lt_of_lt_of_le hb1 hB
      have yy0:=fun ob=>kA ob ((hb3.cell (p:=⟨b1,o1+1,none⟩) hl1b).trans i1)
      have yy1:=fun ob=>kA ob ((hb3.cell (p:=⟨b1,o1+4+1,none⟩) hl1b).trans j1)
      have HNY:=hid (And.intro hny0 hny1)
      rw [show ([.mk ky0 ny0 dy0 ly0,.mk ky1 ny1 dy1 ly1]:List Itm).length=2 from rfl] at *
      clear kA i1 j1 hy0 hy1 hny0 hny1 hl1b hl2
      clear g0 g1 g2 g3 hx0 hx1 hrow1 hrd1 hrd3 hb3 hb31 hat kk hd1 hl1 hn0 hz3 s0 s1 s2 s3
      go_enter Tryz.func123,Tryz.ntmps123
      go_wp2_with fail
      rw [← hW3]
      clear hW3 q0 q1 q2 q3
      go_region
      all_goals go_wp2_with fail
      all_goals go_region
      all_goals go_wp2_with fail
      all_goals
        refine bodyPost_ret (v:=epdV (wrap64 (n0:Int)) ⟨d1.toArray⟩ ny0 ny1) (by simp [results,Tryz.results123,go_sem,z0,z1,z2,z3,epdV]) rfl ⟨(by first|exact HFIN.out _ _ _ _ _ _ (Below.refl _ _)|exact (HFIN.out _ _ _ _ _ _ (Below.refl _ _)).drew|exact (HFIN.out _ _ _ _ _ _ (Below.refl _ _)).drew.drew),wrap64 (n0:Int),⟨d1.toArray⟩,ny0,ny1,rfl,?_,HNY.out.1,HNY.out.2,fun e' hc' hi'=>?_⟩
      all_goals first
        | (rw [Lib.size_eq];simp;have h:=HN.out.2.2;have h2:=HN.out.2.1;omega)
        | (obtain ⟨r1,r2,r3,r4⟩:=took_pure hc' hi'
           obtain ⟨h,-,-⟩|r5:=r4
           · cases h
           · simp only [List.cons.injEq,Itm.mk.injEq,and_true] at r5
             exact epd_ext (by rw [r1];exact (wrap_scheme r2).symm) (by rw [r3];unfold ep;simp) r5.1.2.1.symm r5.2.2.1.symm)
    · have hl2i:¬ ((l1.length:Int)=2):=by omega
      have HL2:=hid hl2
      clear kA hl2
      clear g0 g1 g2 g3 hx0 hx1 hrow1 hrd1 hrd3 hb3 hb31 hat kk hd1 hl1 hn0 hz3 s0 s1 s2 s3
      have hN1:Hid (d1.length=nd1):=HN.out.2.2
      go_enter Tryz.func123,Tryz.ntmps123
      go_wp2_with fail
      rw [← hW3]
      clear hW3 q0 q1 q2 q3
      generalize hNN:l1.length=NN at *
      have HNN:=hid hNN
      clear hNN
      have hbq:((NN:Int)==2)=false:=by rw [beq_eq_false_iff_ne];exact hl2i
      clear hl2i
      go_region
      all_goals go_wp2_with fail
      all_goals
        refine bodyPost_ret (v:=epdV (wrap64 (n0:Int)) ⟨d1.toArray⟩ 0 0) (by simp [results,Tryz.results123,go_sem,z0,z1,z2,z3,epdV]) rfl ⟨(by first|exact HFIN.out _ _ _ _ _ _ (Below.refl _ _)|exact (HFIN.out _ _ _ _ _ _ (Below.refl _ _)).drew|exact (HFIN.out _ _ _ _ _ _ (Below.refl _ _)).drew.drew),wrap64 (n0:Int),⟨d1.toArray⟩,0,0,rfl,?_,by decide,by decide,fun e' hc' hi'=>?_⟩
      all_goals first
        | (rw [Lib.size_eq];simp;have h:=HN.out.2.2;have h2:=HN.out.2.1;omega)
        | (obtain ⟨r1,r2,r3,r4⟩:=took_pure hc' hi'
           obtain ⟨-,h4,h5⟩|r5:=r4
           · exact epd_ext (by rw [r1];exact (wrap_scheme r2).symm) (by rw [r3];unfold ep;simp) h4 h5
           · exact absurd (by rw [← HNN.out,r5];rfl) HL2.out)
  · have HT:Hid (∀ w':World,Below w.heap.size w w'→Took (.mk k m d l) w (.returned (epdV 0 ⟨#[]⟩ 0 0)) w'):=fun w' hb=>⟨hb,0,⟨#[]⟩,0,0,rfl,by decide,by decide,by decide,fun e' _ hi=>absurd (by rw [itm_two hi];rfl) h2⟩
    have h2i:¬ ((l.length:Int)=2):=by omega
    have HL:=hid hl
    clear hrow hl h2
    have ZE:=zeroE (g:=w.heap.size+1) (by simp) (Below.refl (w.heap.size+1+1) ((w.alloc (.cells #[.int .i64 k,.int .u64 (m:Int),.slice A nd cd,.slice AL l.length cl] 30)).alloc (.cells #[.int .i64 0,.string ⟨#[]⟩,.int .u64 0,.int .u64 0] 25)))
    obtain ⟨⟨z0,z1,z2,z3⟩,f0,f1,f2,f3⟩:=ZE
    go_enter Tryz.func123,Tryz.ntmps123
    go_wp2_with fail
    refine bodyPost_ret (v:=epdV 0 ⟨#[]⟩ 0 0) (by simp [results,Tryz.results123,go_sem,z0,z1,z2,z3,epdV]) rfl (HT.out _ ?_)
    first|exact HB0.out|exact below_put4 HB0.out (Nat.le_succ _)
def ItmL (E:Epd) (w:World) (e:Ending) (w':World):Prop:=Below w.heap.size w w' ∧
 ((checkB E=true∧∃ v,e=.returned (.tuple #[v,.int .i64 0])∧RdI (mask (lows w.heap.size) w') w'.heap.size v (itemE E)) ∨
  (checkB E=false∧e=.returned (.tuple #[zeroItem,.int .i64 40])))
theorem itemL_any (A:Snt) (sc:Int) (s:ByteArray) (n0 v0:Nat) (w:World) (hA:Lds A w) (hs:s.size≤140737488355328) (hn:n0<18446744073709551616) (hv:v0<18446744073709551616) :
  Calls Tryz.prog 13 #[epdV sc s n0 v0] w (ItmL (ep sc s n0 v0) w):=by
 have HA1:=hid ((hA.alloc (.cells #[.int .i64 sc,.string s,.int .u64 (n0:Int),.int .u64 (v0:Int)] 25)).alloc (.cells #[.int .i64 0,.int .u64 0,.slice none 0 0,.slice none 0 0] 30))
 have C1:=hid (written_any A sc s n0 v0 _ HA1.out hs hn hv)
 have HB0:Hid (Below w.heap.size w ((w.alloc (.cells #[.int .i64 sc,.string s,.int .u64 (n0:Int),.int .u64 (v0:Int)] 25)).alloc (.cells #[.int .i64 0,.int .u64 0,.slice none 0 0,.slice none 0 0] 30))):=((Below.refl _ _).alloc nlr _).alloc (le_alloc _ _) _
 generalize ep sc s n0 v0=E at *
 clear hA hs hn hv
 unfold epdV at *
 go_enter Tryz.func13,Tryz.ntmps13
 go_wp2_with fail
 refine C1.out.mono ?_
 rintro e w1 ⟨hb,hcase⟩
 have HL1:=hid (HA1.out.below hb nlr)
 have HB1:=hid (hb.mono (show w.heap.size+2≤_ by simp))
 have HZ1:Hid (w.heap.size+2≤w1.heap.size):=by show _≤_;have h:=hb.size;simpa using h
 have HNE:Hid (¬ w.heap.size+1=w1.heap.size):=fun h=>by have:=HZ1.out;omega
 clear hb
 obtain ⟨hc,v,rfl,hr⟩|⟨hc,a,tx,ha,rfl⟩:=hcase
 ·
  obtain ⟨k,m,D,nd,cd,AL,nl,cl,rfl⟩:=hr.form
  have hs2:((w.alloc (.cells #[.int .i64 sc,.string s,.int .u64 (n0:Int),.int .u64 (v0:Int)] 25)).alloc (.cells #[.int .i64 0,.int .u64 0,.slice none 0 0,.slice none 0 0] 30)).heap.size=w.heap.size+2:=by simp
  rw [hs2] at hr
  have HR:=hid (hr.grow ((Below.refl w1.heap.size w1).alloc nlr (.cells #[.int .i64 k,.int .u64 (m:Int),.slice D nd cd,.slice AL nl cl] 30)) nlr)
  have HC:=hid hc
  have CN:=hid (fun W (hW:Lds A W)=>number_nilB A W hW)
  clear hc hr hs2
  go_wp2_with fail
  have HA2:=hid (HL1.out.alloc (.cells #[.int .i64 k,.int .u64 (m:Int),.slice D nd cd,.slice AL nl cl] 30))
  have HB2:=hid (HB1.out.trans (((Below.refl w1.heap.size w1).alloc nlr (.cells #[.int .i64 k,.int .u64 (m:Int),.slice D nd cd,.slice AL nl cl] 30)).mono HZ1.out))
  have HLT:Hid (w1.heap.size<(w1.alloc (.cells #[.int .i64 k,.int .u64 (m:Int),.slice D nd cd,.slice AL nl cl] 30)).heap.size):=by show _<_;simp
  obtain ⟨p0,p1,p2,p3⟩:=box_cells4 (Below.refl _ (w1.alloc (.cells #[.int .i64 k,.int .u64 (m:Int),.slice D nd cd,.slice AL nl cl] 30)))
  generalize w1.alloc (.cells #[.int .i64 k,.int .u64 (m:Int),.slice D nd cd,.slice AL nl cl] 30)=W1 at *
  have HD:=hid (HA2.out.below (Below.drew_ (B:=W1.heap.size)) nlr)
  have HZ2:=hid (Nat.le_trans HZ1.out (Nat.le_of_lt HLT.out))
  go_region_held3 (fun W=>W.cell? ⟨w1.heap.size,0,none⟩=some (.int .i64 k)∧W.cell? ⟨w1.heap.size,1,none⟩=some (.int .u64 (m:Int))∧W.cell? ⟨w1.heap.size,2,none⟩=some (.slice D nd cd)∧W.cell? ⟨w1.heap.size,3,none⟩=some (.slice AL nl cl))
   (first|(with_reducible exact ⟨put4_cell_ x0 HNE.out,put4_cell_ x1 HNE.out,put4_cell_ x2 HNE.out,put4_cell_ x3 HNE.out⟩)|(with_reducible exact ⟨x0,x1,x2,x3⟩)|(exact ⟨p0,p1,p2,p3⟩)|fail)
   (first
    | (go_at_call 66;refine (CN.out _ HD.out).mono ?_;rintro e w2 ⟨rfl,hb2⟩;have hb2':Below W1.heap.size W1 w2:=Below.drew_.trans hb2;have x0:=(hb2'.cell (p:=⟨w1.heap.size,0,none⟩) HLT.out).trans p0;have x1:=(hb2'.cell (p:=⟨w1.heap.size,1,none⟩) HLT.out).trans p1;have x2:=(hb2'.cell (p:=⟨w1.heap.size,2,none⟩) HLT.out).trans p2;have x3:=(hb2'.cell (p:=⟨w1.heap.size,3,none⟩) HLT.out).trans p3;have hb3:=HB2.out.trans (hb2'.mono HZ2.out);have BX:=hid hb2';obtain ⟨⟨z0,z1,z2,z3⟩,f0,f1,f2,f3⟩:=zero4 (g:=w.heap.size+1) (by simp) hb3;have B3:=hid hb3;clear hb2 hb2' hb3)
    | fail)
  go_wp2_with fail
  refine bodyPost_ret (v:=.tuple #[.agg #[.int .i64 k,.int .u64 (m:Int),.slice D nd cd,.slice AL nl cl],.int .i64 0]) (by simp [results,Tryz.results13,go_sem,z0,z1,z2,z3]) rfl ⟨below_set4 (HB0.out.trans (B3.out.mono (Nat.le_add_right _ 2))) (Nat.le_succ _),.inl ⟨HC.out,_,rfl,?_⟩⟩
  exact (HR.out.grow BX.out nlr).put4 (Nat.le_add_right _ 2) (Nat.lt_succ_self _) (Nat.le_of_eq size_put4.symm)
 ·
  have HC:=hid hc
  have CN:=hid (fun W (hW:Lds A W)=>number_ch A 1 (.iface 149 (.agg #[.string tx,snt a])) a W hW (.wrap 0 tx _ _ a (.leaf a ha)) (by decide))
  clear hc ha
  unfold zeroItem eflt snt at *
  go_wp2_with fail
  have HA2:=hid (HL1.out.alloc (.cells #[.int .i64 0,.int .u64 0,.slice none 0 0,.slice none 0 0] 30))
  have HB2:=hid (HB1.out.trans (((Below.refl w1.heap.size w1).alloc nlr (.cells #[.int .i64 0,.int .u64 0,.slice none 0 0,.slice none 0 0] 30)).mono HZ1.out))
  have HLT:Hid (w1.heap.size<(w1.alloc (.cells #[.int .i64 0,.int .u64 0,.slice none 0 0,.slice none 0 0] 30)).heap.size):=by show _<_;simp
  obtain ⟨p0,p1,p2,p3⟩:=box_cells4 (Below.refl _ (w1.alloc (.cells #[.int .i64 0,.int .u64 0,.slice none 0 0,.slice none 0 0] 30)))
  generalize w1.alloc (.cells #[.int .i64 0,.int .u64 0,.slice none 0 0,.slice none 0 0] 30)=W1 at *
  have HD:=hid (HA2.out.below (Below.drew_ (B:=W1.heap.size)) nlr)
  have HZ2:=hid (Nat.le_trans HZ1.out (Nat.le_of_lt HLT.out))
  go_region_held3 (fun W=>W.cell? ⟨w1.heap.size,0,none⟩=some (.int .i64 0)∧W.cell? ⟨w1.heap.size,1,none⟩=some (.int .u64 0)∧W.cell? ⟨w1.heap.size,2,none⟩=some (.slice none 0 0)∧W.cell? ⟨w1.heap.size,3,none⟩=some (.slice none 0 0))
   (first|(with_reducible exact ⟨put4_cell_ x0 HNE.out,put4_cell_ x1 HNE.out,put4_cell_ x2 HNE.out,put4_cell_ x3 HNE.out⟩)|(with_reducible exact ⟨x0,x1,x2,x3⟩)|(exact ⟨p0,p1,p2,p3⟩)|fail)
   (first
    | (go_at_call 66;refine (CN.out _ HD.out).mono ?_;rintro e w2 ⟨rfl,hb2⟩;have hb2':Below W1.heap.size W1 w2:=Below.drew_.trans hb2;have x0:=(hb2'.cell (p:=⟨w1.heap.size,0,none⟩) HLT.out).trans p0;have x1:=(hb2'.cell (p:=⟨w1.heap.size,1,none⟩) HLT.out).trans p1;have x2:=(hb2'.cell (p:=⟨w1.heap.size,2,none⟩) HLT.out).trans p2;have x3:=(hb2'.cell (p:=⟨w1.heap.size,3,none⟩) HLT.out).trans p3;have hb3:=HB2.out.trans (hb2'.mono HZ2.out);have BX:=hid hb2';obtain ⟨⟨z0,z1,z2,z3⟩,f0,f1,f2,f3⟩:=zero4 (g:=w.heap.size+1) (by simp) hb3;have B3:=hid hb3;clear hb2 hb2' hb3)
    | fail)
  go_wp2_with fail
  refine bodyPost_ret (v:=.tuple #[zeroItem,.int .i64 40]) (by simp [results,Tryz.results13,go_sem,z0,z1,z2,z3,zeroItem]) rfl ⟨below_set4 (HB0.out.trans (B3.out.mono (Nat.le_add_right _ 2))) (Nat.le_succ _),.inr ⟨HC.out,rfl⟩⟩
open Go.Lib (decDigits)
theorem dig_cut (d:Nat) (hd:d<10) (x y:Int) (hx:x=(d:Int)) (hy:y=(d:Int)+1) (W:World) :
  (Instr.slice 9 (.string ⟨#[48,49,50,51,52,53,54,55,56,57,97,98,99,100,101,102]⟩) (some (.int .u64 x)) (some (.int .u64 y)) none).run Tryz.prog W=.ok (.string ⟨#[UInt8.ofNat (48+d)]⟩) W:=by
 have ht:=Tryz.underlying9
 subst hx hy
 match d,hd with
 | 0,_=>go_simp;try rfl
 | 1,_=>go_simp;try rfl
 | 2,_=>go_simp;try rfl
 | 3,_=>go_simp;try rfl
 | 4,_=>go_simp;try rfl
 | 5,_=>go_simp;try rfl
 | 6,_=>go_simp;try rfl
 | 7,_=>go_simp;try rfl
 | 8,_=>go_simp;try rfl
 | 9,_=>go_simp;try rfl
theorem strL_push (x:UInt8) (l:List UInt8):(⟨#[x]⟩:ByteArray)++strL l=strL (x::l):=by
 unfold strL
 apply ByteArray.ext
 simp
theorem rdec_any (x:Nat) (w:World) (hx:x<18446744073709551616) :
  Calls Tryz.prog 71 #[.int .u64 (x:Int)] w fun e w'=>e=.returned (.string (strL (decDigits x)))∧w=w':=by
 obtain ⟨L,hL⟩:∃ L,L=decDigits x:=⟨_,rfl⟩
 rw [← hL]
 have HL:Hid (L=decDigits x++[]):=by show _=_;rw [hL];simp
 have he:(⟨#[]⟩:ByteArray)=strL []:=rfl
 clear hL
 go_enter Tryz.func71,Tryz.ntmps71
 go_wp2_with fail
 go_loop [0,3] (fun v s=>∃ (a:Nat) (suf:List UInt8),v=.int .u64 (a:Int)∧s=.string (strL suf)∧a<18446744073709551616∧Hid (a<10 ^ (20 - suf.length))∧Hid (suf.length<20)∧Hid (L=decDigits a++suf)) (fun v _=>(intOf v).toNat)
 case atStart=>exact ⟨x,[],rfl,rfl,hx,(by show x<100000000000000000000;omega),(by show 0<20;decide),HL⟩
 case round =>
  obtain ⟨a,suf,rfl,rfl,ha,hpow,hsuf,hdig⟩:=hrel
  have hsz:(strL suf).size<20:=by rw [strL_size];exact hsuf.out
  obtain ⟨d,hd⟩:∃ d:Nat,(a:Int) % 10=(d:Int):=⟨a % 10,by omega⟩
  have hd10:d<10:=by omega
  have hp:=strL_push (UInt8.ofNat (48+d)) suf
  by_cases hz:9<a
  ·
   have hz1:(9:Int)<(a:Int):=by omega
   have hz2:decide ((9:Int)<(a:Int))=true:=decide_eq_true hz1
   obtain ⟨Q,hQ⟩:∃ Q:Nat,(a:Int) / 10=(Q:Int):=⟨a / 10,by omega⟩
   have hw1:IntKind.u64.wrap ((d:Int)+1)=(d:Int)+1:=by rw [show IntKind.u64.wrap ((d:Int)+1)=((d:Int)+1) % 18446744073709551616 from rfl];omega
   have hcut:=fun W=>dig_cut d hd10 (d:Int) ((d:Int)+1) rfl rfl W
   obtain ⟨y,hy⟩:∃ y,y=UInt8.ofNat (48+d):=⟨_,rfl⟩
   rw [← hy] at hcut hp
   have HY:=hid hy
   clear hy
   go_wp2_with fail
   go_round
   case rel =>
    have hp2:=hpow.out
    have hs2:=hsuf.out
    have e1:d=a % 10:=by omega
    have e2:Q=a / 10:=by omega
    refine ⟨Q,y::suf,by go_num,by first|rw [hp]|rfl,by omega,?_,?_,?_⟩
    ·
     show Q<10 ^ (20 - (suf.length+1))
     have e:10 ^ (20 - suf.length)=10 ^ (20 - (suf.length+1))*10:=by rw [← Nat.pow_succ];congr 1;omega
     rw [e] at hp2
     rw [e2]
     exact Nat.div_lt_of_lt_mul (by rw [Nat.mul_comm];exact hp2)
    ·
     show suf.length+1<20
     rcases Nat.lt_or_ge (suf.length+1) 20 with h|h
     ·
      exact h
     ·
      have:suf.length=19:=by omega
      rw [this] at hp2
      simp at hp2
      omega
    ·
     show L=_
     rw [hdig.out,decDigits,dif_neg (by omega),HY.out,e1,e2]
     simp
   case measure=>simp [intOf];omega
  ·
   have hz2:decide ((9:Int)<(a:Int))=false:=decide_eq_false (by omega)
   have hz3:¬ (9:Int)<(a:Int):=by omega
   have e1:d=a:=by omega
   have hw1:IntKind.u64.wrap ((a:Int)+1)=(a:Int)+1:=by rw [show IntKind.u64.wrap ((a:Int)+1)=((a:Int)+1) % 18446744073709551616 from rfl];omega
   have hcut:=fun W=>dig_cut a (by omega) (a:Int) ((a:Int)+1) rfl rfl W
   rw [e1] at hp
   have hfin:Hid (UInt8.ofNat (48+a)::suf=L):=by show _=_;rw [hdig.out,decDigits,dif_pos (by omega)];rfl
   clear hd e1
   obtain ⟨y,hy⟩:∃ y,y=UInt8.ofNat (48+a):=⟨_,rfl⟩
   rw [← hy] at hcut hp hfin
   clear hy
   go_wp2_with fail
   go_ret
   exact ⟨by rw [← hfin.out,← hp];rfl,rfl⟩
end Go.Proofs.YtlecbblmaadpiaaGreatDoor
