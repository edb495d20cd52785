import Derived.Test.YtlecbblmaadpiaaGreatDoorKEidL2
import Derived.LaidEql
import Derived.Stop.Asserts
import Derived.Stop.IfaceNil
import Derived.RowKitTokens
import Derived.Deep.RegionHeld3
import Derived.Lib.IfaceEq
namespace Go.Proofs.YtlecbblmaadpiaaGreatDoor
set_option maxRecDepth 100000
set_option maxHeartbeats 16000000
open Go.RowKit
open Go.Lib (hid)
structure Snt where
 s:Addr
 n:Addr
 u:Addr
 f:Addr
def OneOf (A:Snt) (a:Addr):Prop:=a=A.s∨a=A.n∨a=A.u∨a=A.f
def snt (a:Addr):Value:=.iface 279 (.pointer (some a))
structure Lds (A:Snt) (w:World):Prop where
 cs:w.cell? ⟨0,0,none⟩=some (snt A.s)
 cn:w.cell? ⟨1,0,none⟩=some (snt A.n)
 cu:w.cell? ⟨2,0,none⟩=some (snt A.u)
 cf:w.cell? ⟨3,0,none⟩=some (snt A.f)
 row:∀ a,OneOf A a→∃ c t,w.heap[a.block]?=some (.cells c t (0,0))
 ne:A.s≠A.n∧A.s≠A.u∧A.s≠A.f∧A.n≠A.u∧A.n≠A.f∧A.u≠A.f
theorem Lds.below {A:Snt} {w w':World} {B:Nat} (h:Lds A w) (hb:Below B w w') (hB:w.heap.size≤B):Lds A w':=by
 have k:∀ {p:Addr} {v:Value},w.cell? p=some v→w'.cell? p=some v:=fun hc=>(hb.cell (Nat.lt_of_lt_of_le (World.block_lt_of_cell? w _ hc) hB)).trans hc
 refine ⟨k h.cs,k h.cn,k h.cu,k h.cf,?_,h.ne⟩
 ·
  intro a ha
  obtain ⟨c,t,hc⟩:=h.row a ha
  have hl:a.block<w.heap.size:=by
   rcases Nat.lt_or_ge a.block w.heap.size with h1|h1
   ·
    exact h1
   ·
    rw [Array.getElem?_eq_none h1] at hc;cases hc
  exact ⟨c,t,(hb.block a.block (Nat.lt_of_lt_of_le hl hB)).trans hc⟩
theorem Lds.alloc {A:Snt} {w:World} (h:Lds A w) (o:Obj):Lds A (w.alloc o):=h.below ((Below.refl _ _).alloc nlr o) nlr
theorem drewN_below {B:Nat} {w:World} (m:Nat):Below B w (w.drewN m):=⟨rfl,rfl,rfl,Nat.le_refl _,fun _ _=>rfl⟩
theorem or_any (w:World) :
  Calls Tryz.prog 191 #[.func (.func 190) #[] #[],.string ⟨#[47]⟩] w fun e w'=>∃ b1 b2,e=.returned (lsFn b1 b2)∧LsAt2 b1 b2 w'∧Below w.heap.size w w':=by
 go_enter Tryz.func191,Tryz.ntmps191
 go_wp2_with fail
 refine bodyPost_ret (v:=lsFn w.heap.size (w.heap.size+1)) (by simp [results,Tryz.results191,go_sem,lsFn]) rfl ⟨w.heap.size,w.heap.size+1,rfl,⟨?_,?_⟩,?_⟩
 ·
  rw [World.cell?_alloc_lt _ _ _ (by simp)];rw [World.cell?_alloc_at _ _ _ _ rfl];rfl
 ·
  rw [World.cell?_alloc_at _ _ _ _ (by simp)];rfl
 ·
  exact ((Below.refl _ _).alloc nlr _).alloc (by simp) _
theorem isname_any (s:ByteArray) (w:World) (hs:s.size≤140737488355328) :
  Calls Tryz.prog 153 #[.string s] w fun e w'=>e=.returned (.bool (nameB s.data.toList))∧Below w.heap.size w w':=by
 have hsz:s.size=s.data.toList.length:=Lib.size_eq s
 rw [← nameC_eq]
 obtain ⟨R,hR⟩:∃ R,R=nameC s.data.toList:=⟨_,rfl⟩
 rw [← hR]
 unfold nameC at hR
 by_cases h64:64<s.size
 ·
  have hr:R=false:=by rw [hR,decide_eq_false (by omega)];rfl
  subst hr
  clear hR hsz
  have h64i:decide ((64:Int)<(s.size:Int))=true:=by simp;omega
  go_enter Tryz.func153,Tryz.ntmps153
  go_wp2_with fail
  go_ret
  exact ⟨rfl,Below.refl _ _⟩
 have h65:s.size≤64:=by omega
 rw [decide_eq_true (by omega),Bool.true_and] at hR
 have C1:=hid (Tryz.strings_CutPrefix s ⟨#[47,47]⟩ w)
 have e47:(⟨#[47,47]⟩:ByteArray).data.toList=[47,47]:=rfl
 rw [e47] at C1
 by_cases hp:Lib.hasPrefix s.data.toList [47,47]=true
 ·
  rw [hp,Bool.true_and] at hR
  have et:Lib.trimPrefix s.data.toList [47,47]=s.data.toList.drop 2:=by unfold Lib.trimPrefix;rw [if_pos hp];rfl
  rw [hp,et] at C1
  have hrl:(s.data.toList.drop 2).length≤64:=by rw [List.length_drop];omega
  generalize s.data.toList.drop 2=r at *
  have C2:=hid (fun W=>cut_any ⟨r.toArray⟩ 47 W (by rw [Lib.size_eq];simp;omega))
  unfold cutV at C2
  rw [show (⟨r.toArray⟩:ByteArray).data.toList=r by simp] at C2
  have hal:=ahead_le 47 r
  have hbl:(behind 47 r).length≤64:=by unfold behind;rw [List.length_drop];omega
  by_cases hh:hasB 47 r=true
  ·
   rw [hh,Bool.true_and] at hR
   rw [hh] at C2
   generalize ahead 47 r=u at *
   generalize behind 47 r=t at *
   have hus:(⟨u.toArray⟩:ByteArray).data.toList=u:=by simp
   have hts:(⟨t.toArray⟩:ByteArray).data.toList=t:=by simp
   have C3:=hid (fun W=>only_letter ⟨u.toArray⟩ W (by rw [Lib.size_eq,hus];omega))
   have C5:=hid (fun b1 b2 W h=>only_ls ⟨t.toArray⟩ b1 b2 W h (by rw [Lib.size_eq,hts];omega))
   rw [hus] at C3
   rw [hts] at C5
   clear hp et hrl hal hbl hh hsz hus hts
   have hue:(⟨u.toArray⟩:ByteArray).toList.isEmpty=u.isEmpty:=by rw [Lib.toList_data]
   generalize (⟨u.toArray⟩:ByteArray)=us at *
   generalize (⟨t.toArray⟩:ByteArray)=ts at *
   cases hui:u.isEmpty with
   | true =>
    rw [hui] at hue hR
    have hr:R=false:=hR
    subst hr
    clear hR hui
    go_enter Tryz.func153,Tryz.ntmps153
    go_wp2_with (first
     | (go_at_call 155;refine C1.out.mono ?_;rintro e w' ⟨rfl,rfl⟩)
     | (go_at_call 72;refine (C2.out _).mono ?_;rintro e w' ⟨rfl,m,rfl⟩)
     | fail)
    go_ret
    exact ⟨rfl,drewN_below m⟩
   | false =>
    rw [hui] at hue hR
    have hR2:R=(u.all letterB&&t.all lsB):=hR
    clear hR hui
    generalize t.all lsB=T at *
    cases hul:u.all letterB with
    | false =>
     rw [hul] at C3 hR2
     have hr:R=false:=hR2
     subst hr
     clear hR2 hul
     go_enter Tryz.func153,Tryz.ntmps153
     go_wp2_with (first
      | (go_at_call 155;refine C1.out.mono ?_;rintro e w' ⟨rfl,rfl⟩)
      | (go_at_call 72;refine (C2.out _).mono ?_;rintro e w' ⟨rfl,m,rfl⟩)
      | (go_at_call 189;refine (C3.out _).mono ?_;rintro e w' ⟨rfl,rfl⟩)
      | fail)
     go_ret
     exact ⟨rfl,drewN_below m⟩
    | true =>
     rw [hul] at C3 hR2
     have hr:R=T:=hR2
     subst hr
     clear hR2 hul
     go_enter Tryz.func153,Tryz.ntmps153
     go_wp2_with (first
      | (go_at_call 155;refine C1.out.mono ?_;rintro e w' ⟨rfl,rfl⟩)
      | (go_at_call 72;refine (C2.out _).mono ?_;rintro e w' ⟨rfl,m,rfl⟩)
      | fail)
     refine (C3.out _).mono ?_
     rintro e w1 ⟨rfl,rfl⟩
     go_wp2_with fail
     refine (or_any _).mono ?_
     rintro e w2 ⟨b1,b2,rfl,hat,hb⟩
     have C6:=hid (C5.out b1 b2 w2 hat)
     have HB:=hid hb
     clear hat hb C5
     unfold lsFn at *
     go_wp2_with fail
     refine C6.out.mono ?_
     rintro e w3 ⟨rfl,rfl⟩
     go_wp2_with fail
     go_ret
     exact ⟨rfl,(drewN_below m).trans HB.out⟩
  ·
   rw [Bool.not_eq_true] at hh
   rw [hh,Bool.false_and] at hR
   rw [hh] at C2
   subst hR
   generalize (⟨(ahead 47 r).toArray⟩:ByteArray)=us at *
   generalize (⟨(behind 47 r).toArray⟩:ByteArray)=ts at *
   clear hh hal hbl hrl hsz
   go_enter Tryz.func153,Tryz.ntmps153
   go_wp2_with (first
    | (go_at_call 155;refine C1.out.mono ?_;rintro e w' ⟨rfl,rfl⟩)
    | (go_at_call 72;refine (C2.out _).mono ?_;rintro e w' ⟨rfl,m,rfl⟩)
    | fail)
   go_ret
   exact ⟨rfl,drewN_below m⟩
 ·
  rw [Bool.not_eq_true] at hp
  rw [hp,Bool.false_and] at hR
  rw [hp] at C1
  subst hR
  have hrs:(⟨(Lib.trimPrefix s.data.toList [47,47]).toArray⟩:ByteArray).size≤64:=by
   unfold Lib.trimPrefix
   rw [hp,Lib.size_eq]
   simp
   omega
  generalize (⟨(Lib.trimPrefix s.data.toList [47,47]).toArray⟩:ByteArray)=r at *
  have C2:=hid (fun W=>cut_any r 47 W (by omega))
  unfold cutV at C2
  generalize (⟨(ahead 47 r.data.toList).toArray⟩:ByteArray)=us at *
  generalize (⟨(behind 47 r.data.toList).toArray⟩:ByteArray)=ts at *
  generalize hasB 47 r.data.toList=H at *
  clear hp hsz
  go_enter Tryz.func153,Tryz.ntmps153
  go_wp2_with (first
   | (go_at_call 155;refine C1.out.mono ?_;rintro e w' ⟨rfl,rfl⟩)
   | (go_at_call 72;refine (C2.out _).mono ?_;rintro e w' ⟨rfl,m,rfl⟩)
   | fail)
  go_ret
  exact ⟨rfl,drewN_below m⟩
def epdV (sc:Int) (s:ByteArray) (n v:Nat):Value:=.agg #[.int .i64 sc,.string s,.int .u64 (n:Int),.int .u64 (v:Int)]
def ep (sc:Int) (s:ByteArray) (n v:Nat):Epd:=⟨sc,s.data.toList,n,v⟩
def Why (A:Snt) (b:Bool) (w:World) (e:Ending) (w':World):Prop:=Below w.heap.size w w'∧((b=true∧e=.returned .nilIface)∨(b=false∧∃ a,OneOf A a∧e=.returned (snt a)))
theorem str_empty (s:ByteArray):s.toList.isEmpty=s.data.toList.isEmpty:=by rw [Lib.toList_data]
theorem checkdtn_any (A:Snt) (s:ByteArray) (n v:Nat) (w:World) (hA:Lds A w) (hs:s.size≤140737488355328) :
  Calls Tryz.prog 118 #[epdV 1 s n v] w (Why A (checkB (ep 1 s n v)) w):=by
 obtain ⟨R,hR⟩:∃ R,R=checkB (ep 1 s n v):=⟨_,rfl⟩
 rw [← hR]
 have hR2:R=((n==0&&v==0)&&(s.data.toList.isEmpty||nameB s.data.toList)):=by rw [hR];unfold checkB;rw [if_pos (show (ep 1 s n v).scheme=1 from rfl)];rfl
 clear hR
 have C1:=hid (fun W=>isname_any s W hs)
 have hse:=str_empty s
 unfold epdV
 have HA:=hid hA
 have gu:(w.alloc (.cells #[.int .i64 1,.string s,.int .u64 (n:Int),.int .u64 (v:Int)] 25)).cell? ⟨2,0,none⟩=some (snt A.u):=(hA.alloc _).cu
 have gn:(w.alloc (.cells #[.int .i64 1,.string s,.int .u64 (n:Int),.int .u64 (v:Int)] 25)).cell? ⟨1,0,none⟩=some (snt A.n):=(hA.alloc _).cn
 clear hA
 unfold snt at gu gn
 have gg:∀ (w2:World),Below (w.alloc (.cells #[.int .i64 1,.string s,.int .u64 (n:Int),.int .u64 (v:Int)] 25)).heap.size (w.alloc (.cells #[.int .i64 1,.string s,.int .u64 (n:Int),.int .u64 (v:Int)] 25)) w2→w2.cell? ⟨1,0,none⟩=some (.iface 279 (.pointer (some A.n))):=fun w2 hb=>(((HA.out.alloc _).below hb nlr).cn)
 have GG:=hid gg
 clear gg
 by_cases h0:n=0∧v=0
 ·
  obtain ⟨rfl,rfl⟩:=h0
  have hR3:R=(s.data.toList.isEmpty||nameB s.data.toList):=hR2
  clear hR2
  cases he:s.data.toList.isEmpty with
  | true =>
   rw [he] at hR3 hse
   have hr:R=true:=hR3
   subst hr
   clear hR3 he
   go_enter Tryz.func118,Tryz.ntmps118
   go_wp2_with fail
   go_ret
   exact ⟨(Below.refl _ _).alloc nlr _,.inl ⟨rfl,rfl⟩⟩
  | false =>
   rw [he] at hR3 hse
   have hr:R=nameB s.data.toList:=hR3
   generalize nameB s.data.toList=N at *
   subst hr
   clear hR3 he
   cases R with
   | true =>
    go_enter Tryz.func118,Tryz.ntmps118
    go_wp2_with fail
    refine (C1.out _).mono ?_
    rintro e w1 ⟨rfl,hb⟩
    have HB:=hid hb
    clear hb
    go_wp2_with fail
    go_ret
    exact ⟨((Below.refl _ _).alloc nlr _).trans (HB.out.mono (le_alloc _ _)),.inl ⟨rfl,rfl⟩⟩
   | false =>
    go_enter Tryz.func118,Tryz.ntmps118
    go_wp2_with fail
    refine (C1.out _).mono ?_
    rintro e w1 ⟨rfl,hb⟩
    have g1:=GG.out _ hb
    have HB:=hid hb
    clear hb
    go_wp2_with fail
    go_ret
    exact ⟨((Below.refl _ _).alloc nlr _).trans (HB.out.mono (le_alloc _ _)),.inr ⟨rfl,A.n,.inr (.inl rfl),rfl⟩⟩
 ·
  have hr:R=false:=by
   rw [hR2]
   have:(n==0&&v==0)=false:=by
    rw [Bool.eq_false_iff]
    intro h
    simp at h
    exact h0 h
   rw [this,Bool.false_and]
  subst hr
  clear hR2
  have h1:¬ ((n:Int)=0∧(v:Int)=0):=by omega
  clear h0 GG HA C1 hse
  generalize (n:Int)=N at *
  generalize (v:Int)=V at *
  by_cases hn:N=0
  ·
   subst hn
   have hv:¬ V=0:=fun h=>h1 ⟨rfl,h⟩
   clear h1
   go_enter Tryz.func118,Tryz.ntmps118
   go_wp2_with fail
   go_ret
   exact ⟨(Below.refl _ _).alloc nlr _,.inr ⟨rfl,A.u,.inr (.inr (.inl rfl)),rfl⟩⟩
  ·
   clear h1
   go_enter Tryz.func118,Tryz.ntmps118
   go_wp2_with fail
   go_ret
   exact ⟨(Below.refl _ _).alloc nlr _,.inr ⟨rfl,A.u,.inr (.inr (.inl rfl)),rfl⟩⟩
open Go.RowKit Go.Extern.Stop Go.Stop Go.Extern
inductive Ch (A:Snt):Nat→Value→Addr→Prop
 | leaf (a:Addr):OneOf A a→Ch A 0 (snt a) a
 | wrap (k:Nat) (s:ByteArray) (t:TypeId) (v:Value) (a:Addr):Ch A k (.iface t v) a→Ch A (k+1) (.iface 149 (.agg #[.string s,.iface t v])) a
theorem isTypeOf (v:Value) (w:World):(Extern.ReflectliteType.typeOf #[.iface 279 v]).run Tryz.prog w=.ok (.iface 236 (.agg #[.pointer (some ⟨11,279,none⟩)])) w:=by kernel_rfl
theorem isComparable (w : World) : ((Extern.ReflectliteType.method fun t => do Extern.Rtype.noPackHeld "Comparable" t; (fun a => Value.bool a.comparable) <$> typeInfo t) #[.agg #[.pointer (some ⟨11, 279, none⟩)]]).run Tryz.prog w = .ok (.bool true) w := by kernel_rfl
theorem isMethodComparable (n : Nat) (v : Value) (w : World) : (Go.method (n + 8) 236 v "Comparable").run Tryz.prog w = .ok (279, v) w := by kernel_rfl
theorem isComp:(Tryz.prog.info? 279).map (·.comparable)=some true:=by kernel_rfl
theorem isSize:(Tryz.prog.info? 281).map (·.size)=some 1:=by kernel_rfl
theorem noIsE (v:Value) (xT:TypeId) (w:World):(Instr.typeAssert (.iface 279 v) xT 238 true).run Tryz.prog w=.ok (.tuple #[.nilIface,.bool false]) w:=run_typeAssert_lacksB Tryz.underlying238 (by kernel_rfl) (by kernel_rfl) v xT w
theorem noUnwrapE (v:Value) (xT:TypeId) (w:World):(Instr.typeAssert (.iface 279 v) xT 241 true).run Tryz.prog w=.ok (.tuple #[.nilIface,.bool false]) w:=run_typeAssert_lacksB Tryz.underlying241 (by kernel_rfl) (by kernel_rfl) v xT w
theorem noUnwrapsE (v:Value) (xT:TypeId) (w:World):(Instr.typeAssert (.iface 279 v) xT 243 true).run Tryz.prog w=.ok (.tuple #[.nilIface,.bool false]) w:=run_typeAssert_lacksB Tryz.underlying243 (by kernel_rfl) (by kernel_rfl) v xT w
theorem noIsW (v:Value) (xT:TypeId) (w:World):(Instr.typeAssert (.iface 149 v) xT 238 true).run Tryz.prog w=.ok (.tuple #[.nilIface,.bool false]) w:=run_typeAssert_lacksB Tryz.underlying238 (by kernel_rfl) (by kernel_rfl) v xT w
theorem hasUnwrapW (v:Value) (xT:TypeId) (w:World):(Instr.typeAssert (.iface 149 v) xT 241 true).run Tryz.prog w=.ok (.tuple #[.iface 149 v,.bool true]) w:=run_typeAssert_hasB Tryz.underlying241 (by kernel_rfl) v xT w
theorem methodUnwrap (n : Nat) (v : Value) (w : World) : (Go.method (n + 8) 149 v "Unwrap").run Tryz.prog w = .ok (268, v) w := by kernel_rfl
def links:Nat→Value→Nat
 | 0,_=>0
 | n+1,.iface _ (.agg #[_,v])=>links n v+1
 | _+1,_=>0
theorem Ch.len {A:Snt} {k:Nat} {E:Value} {a:Addr} (h:Ch A k E a):∀ n,k<n→links n E=k:=by
 induction h with
 | leaf a _ =>
  intro n hn
  obtain ⟨m,rfl⟩:∃ m,n=m+1:=⟨n - 1,by omega⟩
  rfl
 | wrap k s t v a h ih =>
  intro n hn
  obtain ⟨m,rfl⟩:∃ m,n=m+1:=⟨n - 1,by omega⟩
  show links m (.iface t v)+1=k+1
  rw [ih m (by omega)]
theorem Ch.one {A:Snt} {k:Nat} {E:Value} {a:Addr} (h:Ch A k E a):OneOf A a:=by
 induction h with
 | leaf a h=>exact h
 | wrap k s t v a h ih=>exact ih
theorem is_any (A:Snt) (k:Nat) (E:Value) (a b:Addr) (w:World) (hA:Lds A w) (hch:Ch A k E a) (hk:k≤8) (hob:OneOf A b) :
  Calls Tryz.prog 152 #[E,snt b,.bool true] w fun e w'=>e=.returned (.bool (decide (a=b)))∧Below w.heap.size w w':=by
 obtain ⟨i,hi,hcmp⟩:=Option.map_eq_some_iff.1 isComp
 obtain ⟨j,hj,hjs⟩:=Option.map_eq_some_iff.1 isSize
 have nE:=noIsE
 have uE:=noUnwrapE
 have vE:=noUnwrapsE
 have nW:=noIsW
 have uW:=hasUnwrapW
 have mU:=methodUnwrap
 have HA:=hid hA
 have HCH:=hid hch
 obtain ⟨R,hR⟩:∃ R,R=decide (a=b):=⟨_,rfl⟩
 rw [← hR]
 have HR:=hid hR
 clear hA hch hR
 unfold snt
 go_enter Tryz.func152,Tryz.ntmps152
 go_wp2_with fail
 go_loopw [0] (fun E' wl=>Hid (Below w.heap.size w wl)∧∃ k',k'≤8∧Ch A k' E' a) (fun E' _=>links 9 E')
 case atStart=>exact ⟨Below.refl _ _,k,hk,HCH.out⟩
 case round =>
  obtain ⟨HB,k',hk',hc'⟩:=hrel
  have hA2:=HA.out.below HB.out nlr
  obtain ⟨cb,tb,hb⟩:=hA2.row b hob
  have hlen0:=hc'.len 9 (by omega)
  cases hc' with
  | leaf a hoa =>
   obtain ⟨ca,ta,ha⟩:=hA2.row a hoa
   unfold snt at *
   by_cases hab:a=b
   ·
    subst hab
    have hr:R=true:=by rw [HR.out];simp
    subst hr
    have heq:=run_eql_iface_ptr_same (P:=Tryz.prog) wr a Tryz.underlying95 Tryz.underlying279 hi hcmp hj
    clear hA2
    go_wp2_with fail
    go_ret
    exact ⟨rfl,HB.out⟩
   ·
    have hr:R=false:=by rw [HR.out];simp [hab]
    subst hr
    have heq:=run_eql_iface_ptr_other (P:=Tryz.prog) wr Tryz.underlying95 Tryz.underlying279 hi hcmp hj (by rw [hjs];decide) hab ha hb
    clear hA2
    go_wp2_with fail
    go_ret
    exact ⟨rfl,HB.out⟩
  | wrap k1 s t v a h1 =>
   have hty:=run_eql_iface_types (P:=Tryz.prog) 149 279 (.agg #[.string s,.iface t v]) (.pointer (some b)) Tryz.underlying95 (by decide) wr
   have hlen:=h1.len 9 (by omega)
   have q1:=fun (W:World) (u:TypeId) (x:Value)=>run_eql_iface_nil (P:=Tryz.prog) (w:=W) 95 (by kernel_rfl) u x
   have HC:=hid h1
   have HL:=hid hlen
   have HL0:=hid hlen0
   clear h1 hA2 hlen hlen0
   go_wp2
   go_roundw
   case rel=>exact ⟨HB.out.trans (((Below.refl _ _).alloc nlr _).mono HB.out.size),k1,by omega,HC.out⟩
   case measure =>
    show links 9 (.iface t v)<_
    rw [HL.out,HL0.out]
    exact Nat.lt_succ_self _
theorem eis_any (A:Snt) (k:Nat) (E:Value) (a b:Addr) (w:World) (hA:Lds A w) (hch:Ch A k E a) (hk:k≤8) (hob:OneOf A b) :
  Calls Tryz.prog 117 #[E,snt b] w fun e w'=>e=.returned (.bool (decide (a=b)))∧Below w.heap.size w w':=by
 have h8:=@run_callFunc_extern Tryz.prog 151 _ Extern.ReflectliteType.typeOf Tryz.func151 (by kernel_rfl) (by kernel_rfl) (by kernel_rfl) (by kernel_rfl)
 have h32 := @run_callFunc_extern Tryz.prog 279 _ (Extern.ReflectliteType.method fun t => do Extern.Rtype.noPackHeld "Comparable" t; pure (.bool (← typeInfo t).comparable)) Tryz.func279 (by kernel_rfl) (by kernel_rfl) (by kernel_rfl) (by kernel_rfl)
 have tT:=isTypeOf
 have cT:=isComparable
 have mR:=isMethodComparable
 have C1:=hid (is_any A k E a b w hA hch hk hob)
 have q1:=fun (W:World) (u:TypeId) (x:Value)=>run_eql_iface_nil (P:=Tryz.prog) (w:=W) 95 (by kernel_rfl) u x
 generalize decide (a=b)=R at *
 obtain ⟨t,v,rfl⟩:∃ t v,E=.iface t v:=by cases hch <;> exact ⟨_,_,rfl⟩
 clear hA hch hob
 unfold snt at *
 go_enter Tryz.func117,Tryz.ntmps117
 go_wp2_with (first
  | (go_at_call 152;refine C1.out.mono ?_;rintro e w1 ⟨rfl,hb⟩;have HB:=hid hb;clear hb)
  | go_in)
 go_ret
 exact ⟨rfl,HB.out⟩
theorem eis_nil (b:Addr) (w:World) :
  Calls Tryz.prog 117 #[.nilIface,snt b] w fun e w'=>e=.returned (.bool false)∧w=w':=by
 have hn:=fun (W:World) (p:Value)=>run_eql_iface_nil_left (P:=Tryz.prog) W 279 p Tryz.underlying95
 unfold snt
 go_enter Tryz.func117,Tryz.ntmps117
 go_wp2
 go_ret
 exact ⟨rfl,rfl⟩
theorem number_nil (A:Snt) (w:World) (hA:Lds A w) :
  Calls Tryz.prog 66 #[.nilIface] w fun e w'=>e=.returned (.int .i64 0)∧w=w':=by
 have cs:=hA.cs
 have cn:=hA.cn
 have cu:=hA.cu
 have cf:=hA.cf
 clear hA
 unfold snt at *
 have C1:=hid (fun b=>eis_nil b w)
 unfold snt at *
 go_enter Tryz.func66,Tryz.ntmps66
 go_wp2_with (first
  | (go_at_call 117;refine (C1.out _).mono ?_;rintro e w1 ⟨rfl,rfl⟩)
  | fail)
 go_ret
 exact ⟨rfl,rfl⟩
theorem number_ch (A:Snt) (k:Nat) (E:Value) (a:Addr) (w:World) (hA:Lds A w) (hch:Ch A k E a) (hk:k≤8) :
  Calls Tryz.prog 66 #[E] w fun e w'=>e=.returned (.int .i64 40)∧Below w.heap.size w w':=by
 have L1:=fun (W:World) (hb:Below w.heap.size w W)=>hA.below hb nlr
 have C1:=hid (fun (b:Addr) (W:World) (hb:Below w.heap.size w W) (ho:OneOf A b)=>eis_any A k E a b W (L1 W hb) hch hk ho)
 have G:∀ W,Below w.heap.size w W→W.cell? ⟨0,0,none⟩=some (snt A.s)∧W.cell? ⟨1,0,none⟩=some (snt A.n)∧W.cell? ⟨2,0,none⟩=some (snt A.u)∧W.cell? ⟨3,0,none⟩=some (snt A.f):=fun W hb=>⟨(L1 W hb).cs,(L1 W hb).cn,(L1 W hb).cu,(L1 W hb).cf⟩
 have G0:=G w (Below.refl _ _)
 obtain ⟨g1,g2,g3,g4⟩:=G0
 have HG:=hid G
 have ho:=hch.one
 have HO:=hid hA.ne
 clear G hA hch L1
 unfold snt at *
 go_enter Tryz.func66,Tryz.ntmps66
 go_wp2_with fail
 refine (C1.out A.s _ (Below.refl _ _) (.inl rfl)).mono ?_
 rintro e w1 ⟨rfl,hb1⟩
 have G1:=HG.out w1 hb1
 have HB1:=hid hb1
 clear hb1 g1 g2 g3 g4
 obtain ⟨g1,g2,g3,g4⟩:=G1
 by_cases a1:a=A.s
 ·
  rw [decide_eq_true a1]
  clear a1 ho
  go_wp2_with fail
  go_ret
  exact ⟨rfl,HB1.out⟩
 rw [decide_eq_false a1]
 go_wp2_with fail
 refine (C1.out A.n _ HB1.out (.inr (.inl rfl))).mono ?_
 rintro e w2 ⟨rfl,hb2⟩
 have hb2':=HB1.out.trans (hb2.mono HB1.out.size)
 have G1:=HG.out w2 hb2'
 have HB2:=hid hb2'
 clear hb2 hb2' g1 g2 g3 g4
 obtain ⟨g1,g2,g3,g4⟩:=G1
 by_cases a2:a=A.n
 ·
  rw [decide_eq_true a2]
  clear a1 a2 ho
  go_wp2_with fail
  go_ret
  exact ⟨rfl,HB2.out⟩
 rw [decide_eq_false a2]
 go_wp2_with fail
 refine (C1.out A.u _ HB2.out (.inr (.inr (.inl rfl)))).mono ?_
 rintro e w3 ⟨rfl,hb3⟩
 have hb3':=HB2.out.trans (hb3.mono HB2.out.size)
 have G1:=HG.out w3 hb3'
 have HB3:=hid hb3'
 clear hb3 hb3' g1 g2 g3 g4
 obtain ⟨g1,g2,g3,g4⟩:=G1
 by_cases a3:a=A.u
 ·
  rw [decide_eq_true a3]
  clear a1 a2 a3 ho
  go_wp2_with fail
  go_ret
  exact ⟨rfl,HB3.out⟩
 rw [decide_eq_false a3]
 have a4:a=A.f:=by
  rcases ho with h|h|h|h
  ·
   exact absurd h a1
  ·
   exact absurd h a2
  ·
   exact absurd h a3
  ·
   exact h
 go_wp2_with fail
 refine (C1.out A.f _ HB3.out (.inr (.inr (.inr rfl)))).mono ?_
 rintro e w4 ⟨rfl,hb4⟩
 have HB4:=hid (HB3.out.trans (hb4.mono HB3.out.size))
 clear hb4 g1 g2 g3 g4
 rw [decide_eq_true a4]
 clear a1 a2 a3 a4 ho
 go_wp2_with fail
 go_ret
 exact ⟨rfl,HB4.out⟩
theorem number_nilB (A:Snt) (w:World) (hA:Lds A w) :
  Calls Tryz.prog 66 #[.nilIface] w fun e w'=>e=.returned (.int .i64 0)∧Below w.heap.size w w' :=
 (number_nil A w hA).mono (by rintro e w' ⟨rfl,rfl⟩;exact ⟨rfl,Below.refl _ _⟩)
theorem put4_cell_ {W:World} {g:Nat} {p:Addr} {u v0 v1 v2 v3:Value} (h:W.cell? p=some u) (hg:¬ g=p.block):((((W.setCell ⟨g,0,none⟩ v0).setCell ⟨g,1,none⟩ v1).setCell ⟨g,2,none⟩ v2).setCell ⟨g,3,none⟩ v3).cell? p=some u:=by
 rw [World.cell?_setCell_far _ _ _ _ hg,World.cell?_setCell_far _ _ _ _ hg,World.cell?_setCell_far _ _ _ _ hg,World.cell?_setCell_far _ _ _ _ hg]
 exact h
open Go.RowKit Go.Extern.Stop Go.Stop Go.Extern
def cauV (z:Int):Value:=.iface 179 (.int .i64 z)
def ufl (z:Int) (s:ByteArray):Value:=.iface 181 (.agg #[.string s,.iface 179 (.int .i64 z)])
theorem cTypeOf (v:Value) (w:World):(Extern.ReflectliteType.typeOf #[.iface 179 v]).run Tryz.prog w=.ok (.iface 236 (.agg #[.pointer (some ⟨11,179,none⟩)])) w:=by kernel_rfl
theorem cComparable (w : World) : ((Extern.ReflectliteType.method fun t => do Extern.Rtype.noPackHeld "Comparable" t; (fun a => Value.bool a.comparable) <$> typeInfo t) #[.agg #[.pointer (some ⟨11, 179, none⟩)]]).run Tryz.prog w = .ok (.bool true) w := by kernel_rfl
theorem cComp:(Tryz.prog.info? 179).map (·.comparable)=some true:=by kernel_rfl
theorem noIsC (v:Value) (xT:TypeId) (w:World):(Instr.typeAssert (.iface 179 v) xT 238 true).run Tryz.prog w=.ok (.tuple #[.nilIface,.bool false]) w:=run_typeAssert_lacksB Tryz.underlying238 (by kernel_rfl) (by kernel_rfl) v xT w
theorem noUnwrapC (v:Value) (xT:TypeId) (w:World):(Instr.typeAssert (.iface 179 v) xT 241 true).run Tryz.prog w=.ok (.tuple #[.nilIface,.bool false]) w:=run_typeAssert_lacksB Tryz.underlying241 (by kernel_rfl) (by kernel_rfl) v xT w
theorem noUnwrapsC (v:Value) (xT:TypeId) (w:World):(Instr.typeAssert (.iface 179 v) xT 243 true).run Tryz.prog w=.ok (.tuple #[.nilIface,.bool false]) w:=run_typeAssert_lacksB Tryz.underlying243 (by kernel_rfl) (by kernel_rfl) v xT w
theorem noIsU (v:Value) (xT:TypeId) (w:World):(Instr.typeAssert (.iface 181 v) xT 238 true).run Tryz.prog w=.ok (.tuple #[.nilIface,.bool false]) w:=run_typeAssert_lacksB Tryz.underlying238 (by kernel_rfl) (by kernel_rfl) v xT w
theorem hasUnwrapU (v:Value) (xT:TypeId) (w:World):(Instr.typeAssert (.iface 181 v) xT 241 true).run Tryz.prog w=.ok (.tuple #[.iface 181 v,.bool true]) w:=run_typeAssert_hasB Tryz.underlying241 (by kernel_rfl) v xT w
theorem methodUnwrapU (n : Nat) (v : Value) (w : World) : (Go.method (n + 8) 181 v "Unwrap").run Tryz.prog w = .ok (272, v) w := by kernel_rfl
theorem isU_any (z k:Int) (s:ByteArray) (w:World) :
  Calls Tryz.prog 152 #[ufl z s,cauV k,.bool true] w fun e w'=>e=.returned (.bool (z==k))∧Below w.heap.size w w':=by
 have nE:=noIsC
 have uE:=noUnwrapC
 have vE:=noUnwrapsC
 have nW:=noIsU
 have uW:=hasUnwrapU
 have mU:=methodUnwrapU
 obtain ⟨R,hR⟩:∃ R,R=(z==k):=⟨_,rfl⟩
 rw [← hR]
 have HR:=hid hR
 clear hR
 unfold cauV
 go_enter Tryz.func152,Tryz.ntmps152
 go_wp2_with fail
 go_loopw [0] (fun E' wl=>Hid (Below w.heap.size w wl)∧(E'=ufl z s∨E'=cauV z)) (fun E' _=>links 9 E')
 case atStart=>exact ⟨Below.refl _ _,.inl rfl⟩
 case round =>
  obtain ⟨HB,rfl|rfl⟩:=hrel
  ·
   unfold ufl at *
   have hty:=run_eql_iface_types (P:=Tryz.prog) 181 179 (.agg #[.string s,.iface 179 (.int .i64 z)]) (.int .i64 k) Tryz.underlying95 (by decide) wr
   have q1:=fun (W:World) (u:TypeId) (x:Value)=>run_eql_iface_nil (P:=Tryz.prog) (w:=W) 95 (by kernel_rfl) u x
   go_wp2
   go_roundw
   case rel=>exact ⟨HB.out.trans (((Below.refl _ _).alloc nlr _).mono HB.out.size),.inr rfl⟩
   case measure=>exact Nat.zero_lt_one
  ·
   unfold cauV at *
   have heq:=Go.Lib.run_eql_iface_int (P:=Tryz.prog) (k:=.i64) wr z k Tryz.underlying95 cComp Tryz.underlying179
   have HE:=hid HB.out
   cases R with
   | true =>
    rw [← HR.out] at heq
    go_wp2_with fail
    go_ret
    exact ⟨rfl,HE.out⟩
   | false =>
    rw [← HR.out] at heq
    go_wp2_with fail
    go_ret
    exact ⟨rfl,HE.out⟩
theorem eisU_any (z k:Int) (s:ByteArray) (w:World) :
  Calls Tryz.prog 117 #[ufl z s,cauV k] w fun e w'=>e=.returned (.bool (z==k))∧Below w.heap.size w w':=by
 have h8:=@run_callFunc_extern Tryz.prog 151 _ Extern.ReflectliteType.typeOf Tryz.func151 (by kernel_rfl) (by kernel_rfl) (by kernel_rfl) (by kernel_rfl)
 have h32 := @run_callFunc_extern Tryz.prog 279 _ (Extern.ReflectliteType.method fun t => do Extern.Rtype.noPackHeld "Comparable" t; pure (.bool (← typeInfo t).comparable)) Tryz.func279 (by kernel_rfl) (by kernel_rfl) (by kernel_rfl) (by kernel_rfl)
 have tT:=cTypeOf
 have cT:=cComparable
 have mR:=isMethodComparable
 have C1:=hid (isU_any z k s w)
 have q1:=fun (W:World) (u:TypeId) (x:Value)=>run_eql_iface_nil (P:=Tryz.prog) (w:=W) 95 (by kernel_rfl) u x
 generalize (z==k)=R at *
 unfold cauV ufl at *
 go_enter Tryz.func117,Tryz.ntmps117
 go_wp2_with (first
  | (go_at_call 152;refine C1.out.mono ?_;rintro e w1 ⟨rfl,hb⟩;have HB:=hid hb;clear hb)
  | go_in)
 go_ret
 exact ⟨rfl,HB.out⟩
def numL:List Int:=[30,31,32,50,51,61,62]
def numZ (z:Int):Int:=if numL.contains z then z else 60
theorem numL_get (i:Nat) (hi:i<7):i=0∧numL.getD i 0=30∨i=1∧numL.getD i 0=31∨i=2∧numL.getD i 0=32∨i=3∧numL.getD i 0=50∨i=4∧numL.getD i 0=51∨i=5∧numL.getD i 0=61∨i=6∧numL.getD i 0=62:=by
 match i,hi with
 | 0,_=>simp [numL]
 | 1,_=>simp [numL]
 | 2,_=>simp [numL]
 | 3,_=>simp [numL]
 | 4,_=>simp [numL]
 | 5,_=>simp [numL]
 | 6,_=>simp [numL]
theorem numZ_hit {z:Int} (i:Nat) (hi:i<7) (h:z=numL.getD i 0):numZ z=z:=by
 rcases numL_get i hi with ⟨-,e⟩|⟨-,e⟩|⟨-,e⟩|⟨-,e⟩|⟨-,e⟩|⟨-,e⟩|⟨-,e⟩ <;> (rw [e] at h;subst h;rfl)
theorem numZ_no {z:Int} (h:∀ j,j<7→z≠numL.getD j 0):numZ z=60:=by
 unfold numZ
 rw [if_neg]
 intro hc
 have:=h 0 (by decide)
 have:=h 1 (by decide)
 have:=h 2 (by decide)
 have:=h 3 (by decide)
 have:=h 4 (by decide)
 have:=h 5 (by decide)
 have:=h 6 (by decide)
 simp [numL] at *
 omega
theorem unumber_any (z:Int) (s:ByteArray) (w:World) :
  Calls Tryz.prog 97 #[ufl z s] w fun e w'=>e=.returned (.int .i64 (numZ z))∧Below w.heap.size w w':=by
 have C1:=hid (fun k W=>eisU_any z k s W)
 have HB0:=hid ((Below.refl w.heap.size w).alloc nlr (.cells #[.int .i64 30,.int .i64 31,.int .i64 32,.int .i64 50,.int .i64 51,.int .i64 61,.int .i64 62] 31))
 have q1:=fun (W:World) (u:TypeId) (x:Value)=>run_eql_iface_nil (P:=Tryz.prog) (w:=W) 95 (by kernel_rfl) u x
 obtain ⟨R,hR⟩:∃ R,R=numZ z:=⟨_,rfl⟩
 rw [← hR]
 have HR:=hid hR
 clear hR
 unfold ufl cauV at *
 go_enter Tryz.func97,Tryz.ntmps97
 go_wp2_with fail
 have hcell:∀ (W:World),Below (w.heap.size+1) (w.alloc (.cells #[.int .i64 30,.int .i64 31,.int .i64 32,.int .i64 50,.int .i64 51,.int .i64 61,.int .i64 62] 31)) W→∀ j,j<7→W.cell? ⟨w.heap.size,j,none⟩=some (.int .i64 (numL.getD j 0)):=fun W hW j hj=>by
  rw [hW.cell (Nat.lt_succ_self _),World.cell?_alloc_at _ _ _ _ rfl]
  rcases numL_get j hj with ⟨rfl,e⟩|⟨rfl,e⟩|⟨rfl,e⟩|⟨rfl,e⟩|⟨rfl,e⟩|⟨rfl,e⟩|⟨rfl,e⟩ <;> (rw [e];rfl)
 have HC:=hid hcell
 clear hcell
 go_loopw [9] (fun v wl=>∃ i:Nat,i≤7∧v=.int .i64 (i:Int)∧Hid (Below (w.heap.size+1) (w.alloc (.cells #[.int .i64 30,.int .i64 31,.int .i64 32,.int .i64 50,.int .i64 51,.int .i64 61,.int .i64 62] 31)) wl)∧Hid (∀ j,j<i→z≠numL.getD j 0)) (fun v _=>7 - (intOf v).toNat)
 case atStart=>exact ⟨0,Nat.zero_le _,rfl,Below.refl _ _,fun j hj=>absurd hj (Nat.not_lt_zero _)⟩
 case round =>
  obtain ⟨i,hi,rfl,HB,HN⟩:=hrel
  by_cases hlt:i<7
  ·
   have hx:=HC.out _ HB.out i hlt
   have C2:=hid (C1.out (numL.getD i 0) wr)
   obtain ⟨y,hy⟩:∃ y,y=numL.getD i 0:=⟨_,rfl⟩
   rw [← hy] at hx C2
   have HY:=hid hy
   clear hy
   by_cases hzy:z=y
   ·
    have e:(z==y)=true:=by simpa using hzy
    rw [e] at C2
    have hz:R=y:=by rw [HR.out,numZ_hit i hlt (hzy.trans HY.out)];exact hzy
    clear hzy e HR
    subst hz
    go_wp2_with fail
    refine C2.out.mono ?_
    rintro e w2 ⟨rfl,hb⟩
    have HB2:=hid (HB0.out.trans ((HB.out.mono (Nat.le_succ _)).trans (hb.mono (Nat.le_trans (Nat.le_succ _) (by have:=HB.out.size;simpa using this)))))
    clear hb
    go_wp2_with fail
    go_ret
    exact ⟨rfl,HB2.out⟩
   ·
    have e:(z==y)=false:=by simpa using hzy
    rw [e] at C2
    clear e
    have HZY:=hid hzy
    clear hzy
    go_wp2_with fail
    refine C2.out.mono ?_
    rintro e w2 ⟨rfl,hb⟩
    have HB2:=hid (HB.out.trans (hb.mono (by have:=HB.out.size;simpa using this)))
    clear hb
    go_wp2_with fail
    go_roundw
    case rel =>
     refine ⟨i+1,by omega,by go_num,HB2.out,fun j hj=>?_⟩
     rcases Nat.lt_succ_iff_lt_or_eq.1 hj with h|rfl
     ·
      exact HN.out j h
     ·
      rw [← HY.out];exact HZY.out
    case measure=>simp [intOf];omega
  ·
   obtain rfl:i=7:=by omega
   have hz:R=60:=HR.out.trans (numZ_no HN.out)
   clear HR
   subst hz
   have HBE:=hid (HB0.out.trans (HB.out.mono (Nat.le_succ _)))
   go_wp2_with fail
   go_ret
   exact ⟨rfl,HBE.out⟩
theorem unumber_nil (w:World):Calls Tryz.prog 97 #[.nilIface] w fun e w'=>e=.returned (.int .i64 0)∧w=w':=by
 go_enter Tryz.func97,Tryz.ntmps97
 go_wp2_with fail
 go_ret
 exact ⟨rfl,rfl⟩
theorem unone_any (s:ByteArray) (w:World):Calls Tryz.prog 142 #[.string s] w fun e w'=>e=.returned (ufl 60 s)∧w=w':=by
 go_enter Tryz.func142,Tryz.ntmps142
 go_wp2_with fail
 go_ret
 exact ⟨rfl,rfl⟩
theorem checkipn_any (A:Snt) (s:ByteArray) (n v:Nat) (w:World) (hA:Lds A w) :
  Calls Tryz.prog 119 #[epdV 2 s n v] w (Why A (checkB (ep 2 s n v)) w):=by
 obtain ⟨R,hR⟩:∃ R,R=checkB (ep 2 s n v):=⟨_,rfl⟩
 rw [← hR]
 have hR2:R=(s.data.toList.isEmpty&&(decide (0<n)&&(decide (n≤4294967295)&&decide (v≤4294967295)))):=by rw [hR];unfold checkB;rw [if_neg (show ¬ (ep 2 s n v).scheme=1 by show ¬ (2:Int)=1;decide)];rfl
 clear hR
 have hse:=str_empty s
 unfold epdV
 have gu:(w.alloc (.cells #[.int .i64 2,.string s,.int .u64 (n:Int),.int .u64 (v:Int)] 25)).cell? ⟨2,0,none⟩=some (snt A.u):=(hA.alloc _).cu
 have gn:(w.alloc (.cells #[.int .i64 2,.string s,.int .u64 (n:Int),.int .u64 (v:Int)] 25)).cell? ⟨1,0,none⟩=some (snt A.n):=(hA.alloc _).cn
 clear hA
 unfold snt at gu gn
 have hN:(decide (0<n)&&(decide (n≤4294967295)&&decide (v≤4294967295)))=(decide ¬ ((n:Int)=0)&&(decide ¬ (4294967295<(n:Int))&&decide ¬ (4294967295<(v:Int)))):=by
  rw [Bool.eq_iff_iff];simp;omega
 rw [hN] at hR2
 clear hN
 generalize (n:Int)=N at *
 generalize (v:Int)=V at *
 cases he:s.data.toList.isEmpty with
 | false =>
  rw [he] at hse hR2
  have hr:R=false:=hR2
  subst hr
  clear hR2 he
  go_enter Tryz.func119,Tryz.ntmps119
  go_wp2_with fail
  go_ret
  exact ⟨(Below.refl _ _).alloc nlr _,.inr ⟨rfl,A.n,.inr (.inl rfl),rfl⟩⟩
 | true =>
  rw [he] at hse hR2
  clear he
  by_cases h1:N=0
  ·
   subst h1
   have hr:R=false:=by rw [hR2];simp
   subst hr
   clear hR2
   go_enter Tryz.func119,Tryz.ntmps119
   go_wp2_with fail
   go_ret
   exact ⟨(Below.refl _ _).alloc nlr _,.inr ⟨rfl,A.u,.inr (.inr (.inl rfl)),rfl⟩⟩
  by_cases h2:4294967295<N
  ·
   have hr:R=false:=by rw [hR2];simp;omega
   subst hr
   clear hR2
   go_enter Tryz.func119,Tryz.ntmps119
   go_wp2_with fail
   go_ret
   exact ⟨(Below.refl _ _).alloc nlr _,.inr ⟨rfl,A.u,.inr (.inr (.inl rfl)),rfl⟩⟩
  have h2':N≤4294967295:=by omega
  by_cases h3:4294967295<V
  ·
   have hr:R=false:=by rw [hR2];simp;omega
   subst hr
   clear hR2
   go_enter Tryz.func119,Tryz.ntmps119
   go_wp2_with fail
   go_ret
   exact ⟨(Below.refl _ _).alloc nlr _,.inr ⟨rfl,A.u,.inr (.inr (.inl rfl)),rfl⟩⟩
  have h3':V≤4294967295:=by omega
  have hr:R=true:=by rw [hR2];simp;omega
  subst hr
  clear hR2
  go_enter Tryz.func119,Tryz.ntmps119
  go_wp2_with fail
  go_ret
  exact ⟨(Below.refl _ _).alloc nlr _,.inl ⟨rfl,rfl⟩⟩
theorem Why.boxed {A:Snt} {b:Bool} {w:World} {o:Obj} {e:Ending} {w':World} (h:Why A b (w.alloc o) e w'):Why A b w e w' :=
 ⟨((Below.refl _ _).alloc nlr o).trans (h.1.mono (le_alloc _ _)),h.2⟩
theorem echeck_any (A:Snt) (sc:Int) (s:ByteArray) (n v:Nat) (w:World) (hA:Lds A w) (hs:s.size≤140737488355328) :
  Calls Tryz.prog 68 #[epdV sc s n v] w (Why A (checkB (ep sc s n v)) w):=by
 have gs:(w.alloc (.cells #[.int .i64 sc,.string s,.int .u64 (n:Int),.int .u64 (v:Int)] 25)).cell? ⟨0,0,none⟩=some (snt A.s):=(hA.alloc _).cs
 unfold snt at gs
 by_cases h1:sc=1
 ·
  subst h1
  have C1:=hid (checkdtn_any A s n v (w.alloc (.cells #[.int .i64 1,.string s,.int .u64 (n:Int),.int .u64 (v:Int)] 25)) (hA.alloc _) hs)
  clear hA gs
  generalize checkB (ep 1 s n v)=R at *
  unfold epdV at *
  go_enter Tryz.func68,Tryz.ntmps68
  go_wp2_with fail
  refine C1.out.mono ?_
  intro e w1 hy
  have HY:=hid hy.boxed
  obtain ⟨hb,⟨hc,rfl⟩|⟨hc,a,ha,rfl⟩⟩:=hy
  ·
   clear hb hc
   go_wp2_with fail
   go_ret
   exact HY.out
  ·
   clear hb hc ha
   unfold snt at *
   go_wp2_with fail
   go_ret
   exact HY.out
 by_cases h2:sc=2
 ·
  subst h2
  have C1:=hid (checkipn_any A s n v (w.alloc (.cells #[.int .i64 2,.string s,.int .u64 (n:Int),.int .u64 (v:Int)] 25)) (hA.alloc _))
  clear hA gs
  generalize checkB (ep 2 s n v)=R at *
  unfold epdV at *
  go_enter Tryz.func68,Tryz.ntmps68
  go_wp2_with fail
  refine C1.out.mono ?_
  intro e w1 hy
  have HY:=hid hy.boxed
  obtain ⟨hb,⟨hc,rfl⟩|⟨hc,a,ha,rfl⟩⟩:=hy
  ·
   clear hb hc
   go_wp2_with fail
   go_ret
   exact HY.out
  ·
   clear hb hc ha
   unfold snt at *
   go_wp2_with fail
   go_ret
   exact HY.out
 have hr:checkB (ep sc s n v)=false:=by
  unfold checkB
  rw [if_neg (show ¬ (ep sc s n v).scheme=1 from h1)]
  have:((ep sc s n v).scheme==2)=false:=beq_eq_false_iff_ne.2 h2
  rw [this,Bool.false_and]
 rw [hr]
 clear hr
 unfold epdV at *
 go_enter Tryz.func68,Tryz.ntmps68
 go_wp2_with fail
 go_ret
 exact ⟨(Below.refl _ _).alloc nlr _,.inr ⟨rfl,A.s,.inl rfl,rfl⟩⟩
theorem ccheck_any (A:Snt) (sc:Int) (s:ByteArray) (n v:Nat) (w:World) (hA:Lds A w) (hs:s.size≤140737488355328) :
  Calls Tryz.prog 15 #[epdV sc s n v] w fun e w'=>e=.returned (.bool (checkB (ep sc s n v)))∧Below w.heap.size w w':=by
 have C1:=hid (echeck_any A sc s n v (w.alloc (.cells #[.int .i64 sc,.string s,.int .u64 (n:Int),.int .u64 (v:Int)] 25)) (hA.alloc _) hs)
 clear hA
 generalize checkB (ep sc s n v)=R at *
 unfold epdV at *
 have q1:=fun (W:World) (u:TypeId) (x:Value)=>run_eql_iface_nil (P:=Tryz.prog) (w:=W) 95 (by kernel_rfl) u x
 go_enter Tryz.func15,Tryz.ntmps15
 go_wp2_with fail
 refine C1.out.mono ?_
 intro e w1 hy
 obtain ⟨hb,⟨rfl,rfl⟩|⟨rfl,a,ha,rfl⟩⟩:=hy
 ·
  have HB:=hid hb
  clear hb
  go_wp2_with fail
  go_ret
  exact ⟨rfl,((Below.refl _ _).alloc nlr _).trans (HB.out.mono (le_alloc _ _))⟩
 ·
  have HB:=hid hb
  clear hb ha
  unfold snt at *
  go_wp2_with fail
  go_ret
  exact ⟨rfl,((Below.refl _ _).alloc nlr _).trans (HB.out.mono (le_alloc _ _))⟩
theorem none_any (sc:Int) (s:ByteArray) (n v:Nat) (w:World) :
  Calls Tryz.prog 17 #[epdV sc s n v] w fun e w'=>e=.returned (.bool (noneB (ep sc s n v)))∧Below w.heap.size w w':=by
 obtain ⟨R,hR⟩:∃ R,R=noneB (ep sc s n v):=⟨_,rfl⟩
 rw [← hR]
 have HR:=hid hR
 clear hR
 unfold epdV
 go_enter Tryz.func17,Tryz.ntmps17
 go_wp2_with fail
 all_goals go_ret
 all_goals
  refine ⟨congrArg (fun b=>Ending.returned (Value.bool b)) ((?_:_=_).trans HR.out.symm),(Below.refl _ _).alloc nlr _⟩
  unfold noneB ep
  simp [← Lib.toList_data, *]
end Go.Proofs.YtlecbblmaadpiaaGreatDoor
