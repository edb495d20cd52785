import Derived.Test.YteckeagobafoiaaGreatDoorQCborR
import Derived.Test.YteckeagobafoiaaGreatDoorQNumB
import Derived.Test.YteckeagobafoiaaGreatDoorQNumG
import Derived.Deep.RegionHeld3
namespace Go.Proofs.YteckeagobafoiaaGreatDoor
set_option maxRecDepth 100000
set_option maxHeartbeats 16000000
open Go.RowKit
/-! ### The whole -/
theorem headD_err {l:List UInt8} {e:Int} (h:headD l=.error e):e=30∨e=31:=by
 cases l with
 | nil=>rw [headD] at h;cases h;exact .inl rfl
 | cons c t =>
  rw [headD] at h
  split at h
  ·
   cases h;exact .inr rfl
  split at h
  ·
   cases h
  split at h
  ·
   cases h;exact .inl rfl
  split at h
  ·
   cases h;exact .inr rfl
  ·
   cases h
def SubErr (sub:Nat→List UInt8→Except Int (Itm×Nat×List UInt8)):Prop:=∀ p l e,sub p l=.error e→e=30∨e=31∨e=32
theorem many_err {sub:Nat→List UInt8→Except Int (Itm×Nat×List UInt8)} (hs:SubErr sub):∀ (n p:Nat) (l:List UInt8) (e:Int),many sub n p l=.error e→e=30∨e=31∨e=32
 | 0,p,l,e,h=>by rw [many] at h;cases h
 | n+1,p,l,e,h=>by
  rw [many] at h
  split at h
  next h1=>cases h;exact hs _ _ _ h1
  next h1 =>
  split at h
  next h2=>cases h;exact many_err hs n _ _ _ h2
  ·
   cases h
theorem endl_err {sub:Nat→List UInt8→Except Int (Itm×Nat×List UInt8)} (hs:SubErr sub):∀ (f p:Nat) (l:List UInt8) (e:Int),endl sub f p l=.error e→e=30∨e=31∨e=32
 | 0,p,l,e,h=>by rw [endl] at h;cases h;exact .inl rfl
 | f+1,p,[],e,h=>by rw [endl] at h;cases h;exact .inl rfl
 | f+1,p,c::r,e,h=>by
  rw [endl] at h
  split at h
  ·
   cases h
  split at h
  next h1=>cases h;exact hs _ _ _ h1
  next h1 =>
  split at h
  next h2=>cases h;exact endl_err hs f _ _ _ h2
  ·
   cases h
theorem textD_err {m n p:Nat} {r:List UInt8} {e:Int} (h:textD m n p r=.error e):e=30∨e=31:=by
 rw [textD] at h
 split at h
 ·
  cases h;exact .inr rfl
 split at h
 ·
  cases h;exact .inl rfl
 ·
  cases h
theorem itemD_err {sub:Nat→List UInt8→Except Int (Itm×Nat×List UInt8)} {deep:Bool} (hs:SubErr sub):SubErr (itemD sub deep):=by
 intro p l e h
 cases l with
 | nil=>rw [itemD] at h;cases h;exact .inl rfl
 | cons c t =>
  rw [itemD] at h
  split at h
  ·
   cases h;exact .inr (.inr rfl)
  split at h
  ·
   split at h
   next h1=>cases h;exact endl_err hs _ _ _ _ h1
   ·
    cases h
  split at h
  next h1 =>
   cases h
   rcases headD_err h1 with h|h
   ·
    exact .inl h
   ·
    exact .inr (.inl h)
  split at h
  ·
   cases h
  split at h
  ·
   split at h
   next h1=>cases h;exact many_err hs _ _ _ _ h1
   ·
    cases h
  ·
   rcases textD_err h with h|h
   ·
    exact .inl h
   ·
    exact .inr (.inl h)
theorem dec_err:∀ d:Nat,SubErr (dec d)
 | 0=>itemD_err (fun _ _ _ h=>by cases h;exact .inr (.inr rfl))
 | d+1=>itemD_err (dec_err d)
def Fits (x:Itm):Prop:=right x=true∧dep x≤8∧par x≤4096
theorem decode_wr {x:Itm} (h:Fits x) (hs:Siz x) (m:List UInt8):decode (wri x++m)=(x,((wri x).length:Int),0):=by
 unfold decode
 rw [dec_wr x 8 0 m h.1 hs h.2.1 (by have:=h.2.2;omega)]
 simp
theorem decode_cases (l:List UInt8):(∃ e:Int,(e=30∨e=31∨e=32)∧decode l=(.zero,0,e)) ∨
  ∃ x r,l=wri x++r∧Fits x∧Siz x∧decode l=(x,((wri x).length:Int),0):=by
 unfold decode
 cases h:dec 8 0 l with
 | error e=>exact .inl ⟨e,dec_err 8 _ _ _ h,rfl⟩
 | ok v =>
  obtain ⟨x,p,r⟩:=v
  obtain ⟨h1,h2,h3,h4,h5,h6⟩:=dec_ok 8 0 l x p r (by decide) h
  refine .inr ⟨x,r,h1,⟨h2,h4,by omega⟩,h3,?_⟩
  subst h1
  simp
/-! ### Greater numbers -/
def GivesO (t:TypeId) (l:List UInt8) (w:World) (e:Ending) (w':World):Prop:=∃ v,e=.returned v∧Ob w' w.heap.size t v l∧Below w.heap.size w w'
def headB (m:Int) (n:Nat):List UInt8:=if m<0∨7<m then [] else hd m.toNat n
theorem Ob.weak {w:World} {base base':Nat} {t:TypeId} {v:Value} {l:List UInt8} (h:Ob w base t v l) (hb:base'≤base):Ob w base' t v l :=
 ⟨h.1,h.2.imp id (fun ⟨g,cap,cur,h1,h2,h3⟩=>⟨g,cap,cur,h1,Nat.le_trans hb h2,h3⟩)⟩
theorem Ob.rdn {w:World} {base n:Nat} {t:TypeId} {v:Value} {l:List UInt8} (h:Ob w base t v l) (hl:l.length=n):∃ (A:Option Addr) (c:Nat),v=.slice A n c∧n≤c∧c≤maxLen∧Rd w w.heap.size A n l:=by
 subst hl
 exact h.rd
theorem head_one (m:Int) (h0:0≤m) (h7:m≤7) (L:Nat) (hL:L≤27):#[Value.int .u8 (32*m+(L:Int))]=(([UInt8.ofNat (32*m.toNat+L)]:List UInt8).map fun u=>Value.int .u8 (u.toNat:Int)).toArray:=by
 obtain ⟨a,rfl⟩:=Int.eq_ofNat_of_zero_le h0
 simp only [Int.toNat_natCast,List.map_cons,List.map_nil]
 rw [byte_nat _ (by omega)]
 rw [Int.natCast_add,Int.natCast_mul]
 rfl
section
variable {P:Program} {w:World}
end
theorem wrs_app:∀ (a b:List Itm),wrs (a++b)=wrs a++wrs b
 | [],b=>by rw [wrs];rfl
 | x::r,b=>by rw [List.cons_append,wrs,wrs,wrs_app r b,List.append_assoc]
theorem wrs_take (l:List Itm) (j:Nat) (h:j<l.length):wrs (l.take (j+1))=wrs (l.take j)++wri (l[j]'h):=by
 rw [List.take_succ_eq_append_getElem h,wrs_app,wrs,wrs,List.append_nil]
theorem wrs_take_len (l:List Itm) (j:Nat):(wrs (l.take j)).length≤(wrs l).length:=by
 conv=>rhs;rw [← List.take_append_drop j l,wrs_app,List.length_append]
 omega
theorem right_get:∀ {l:List Itm},rights l=true→∀ {i:Nat} (hi:i<l.length),right (l[i]'hi)=true
 | [],_,_,hi=>absurd hi (Nat.not_lt_zero _)
 | x::r,h,0,_=>by rw [rights,Bool.and_eq_true] at h;exact h.1
 | x::r,h,i+1,hi=>by rw [rights,Bool.and_eq_true] at h;exact right_get h.2 (i:=i) (by simpa using hi)
theorem Rd.sub {w w':World} {B B' n:Nat} {A:Option Addr} {l:List UInt8} (h:Rd w B A n l) (hB:B≤B') (hk:∀ (p:Addr) (u:Value),p.block<B→w.cell? p=some u→w'.cell? p=some u):Rd w' B' A n l :=
 ⟨h.1,fun hn=>by
  obtain ⟨b,o,e,hb,hc⟩:=h.2 hn
  exact ⟨b,o,e,by omega,fun i hi=>hk ⟨b,o+i,none⟩ _ hb (hc i hi)⟩⟩
mutual
theorem RdI.sub {w w':World} {B B':Nat} (hB:B≤B') (hk:∀ (p:Addr) (u:Value),p.block<B→w.cell? p=some u→w'.cell? p=some u):∀ {x:Itm} {v:Value},RdI w B v x→RdI w' B' v x
 | .mk k n d l,v,h=>by
  rw [RdI] at h ⊢
  obtain ⟨A,nd,cd,AL,nl,cl,e,h1,h2,h3,h4,h5,h6,h7⟩:=h
  refine ⟨A,nd,cd,AL,nl,cl,e,h1,h2,h3,h4.sub hB hk,h5,h6,fun h0=>?_⟩
  obtain ⟨b,o,ea,hb,hs⟩:=h7 h0
  exact ⟨b,o,ea,by omega,RdIs.sub hB hk hb hs⟩
theorem RdIs.sub {w w':World} {B B':Nat} (hB:B≤B') (hk:∀ (p:Addr) (u:Value),p.block<B→w.cell? p=some u→w'.cell? p=some u) {b:Nat} (hb:b<B):∀ {l:List Itm} {o:Nat},RdIs w B b o l→RdIs w' B' b o l
 | [],o,_=>by rw [RdIs];trivial
 | x::r,o,h=>by
  rw [RdIs] at h ⊢
  obtain ⟨⟨c0,c1,c2,c3,g0,g1,g2,g3,gx⟩,hr⟩:=h
  exact ⟨⟨c0,c1,c2,c3,hk ⟨b,o,none⟩ _ hb g0,hk ⟨b,o+1,none⟩ _ hb g1,hk ⟨b,o+2,none⟩ _ hb g2,hk ⟨b,o+3,none⟩ _ hb g3,RdI.sub hB hk gx⟩,RdIs.sub hB hk hb hr⟩
end
def rub (g:Nat) (w:World):World:={ w with heap:=w.heap.modify g fun _=>.cells #[] 0 }
theorem rub_heap {g k:Nat} {w:World} (h:k≠g):(rub g w).heap[k]?=w.heap[k]?:=by
 unfold rub
 simp only [Array.getElem?_modify]
 rw [if_neg (fun e=>h e.symm)]
theorem rub_size {g:Nat} {w:World}:(rub g w).heap.size=w.heap.size:=by simp [rub]
theorem rub_cell {g:Nat} {w:World} {p:Addr} (h:p.block≠g):(rub g w).cell? p=w.cell? p:=World.cell?_of_block (w:=w) (rub_heap h)
theorem rub_none {g:Nat} {w:World} {p:Addr} {u:Value} (h:(rub g w).cell? p=some u):p.block≠g:=by
 intro e
 have hlt:=World.block_lt_of_cell? (rub g w) p h
 have hb:(rub g w).heap[g]?=some (.cells #[] 0):=by
  unfold rub
  simp only [Array.getElem?_modify]
  rw [rub_size,e] at hlt
  simp [hlt]
 unfold World.cell? at h
 rw [e,hb] at h
 simp at h
theorem rub_sub {g:Nat} {w:World} {p:Addr} {u:Value} (h:(rub g w).cell? p=some u):w.cell? p=some u:=by rw [← rub_cell (rub_none h)];exact h
structure Only (g:Nat) (w w':World):Prop where
 os:w'.os=w.os
 tape:w'.tape=w.tape
 output:w'.output=w.output
 size:w.heap.size≤w'.heap.size
 block:∀ k,k<w.heap.size→k≠g→w'.heap[k]?=w.heap[k]?
section
variable {g:Nat} {a b c:World}
theorem Only.refl (g:Nat) (w:World):Only g w w:=⟨rfl,rfl,rfl,Nat.le_refl _,fun _ _ _=>rfl⟩
theorem Only.trans (h:Only g a b) (k:Only g b c):Only g a c :=
 ⟨k.os.trans h.os,k.tape.trans h.tape,k.output.trans h.output,Nat.le_trans h.size k.size,fun i hi hg=>(k.block i (Nat.lt_of_lt_of_le hi h.size) hg).trans (h.block i hi hg)⟩
theorem Only.of_below (h:Below a.heap.size a b):Only g a b:=⟨h.os,h.tape,h.output,h.size,fun k hk _=>h.block k hk⟩
theorem Only.below (h:Only g a b) (hg:g≤a.heap.size):Below g a b:=⟨h.os,h.tape,h.output,h.size,fun k hk=>h.block k (by omega) (by omega)⟩
theorem Only.alloc (h:Only g a b) (o:Obj):Only g a (b.alloc o):=h.trans (Only.of_below ((Below.refl _ _).alloc (Nat.le_refl _) o))
theorem Only.drew (h:Only g a b):Only g a b.drew:=⟨h.os,h.tape,h.output,h.size,h.block⟩
theorem Only.setCell (h:Only g a b) {p:Addr} (hp:p.block=g) (u:Value):Only g a (b.setCell p u) :=
 h.trans ⟨rfl,rfl,rfl,by simp [World.setCell],fun k _ hk=>Below.heap_setCell _ _ _ _ (by omega)⟩
theorem Only.cell (h:Only g a b) {p:Addr} (hp:p.block<a.heap.size) (hg:p.block≠g):b.cell? p=a.cell? p:=World.cell?_of_block (w:=a) (h.block p.block hp hg)
theorem Only.rub_cell (h:Only g a b) {p:Addr} {u:Value} (hp:p.block<a.heap.size) (hc:(rub g a).cell? p=some u):(rub g b).cell? p=some u:=by
 have hg:=rub_none hc
 rw [Go.Proofs.YteckeagobafoiaaGreatDoor.rub_cell hg,h.cell hp hg]
 exact rub_sub hc
theorem RdI.only {v:Value} {x:Itm} (hr:RdI (rub g a) a.heap.size v x) (h:Only g a b):RdI (rub g b) b.heap.size v x:=hr.sub h.size fun _ _ hp hc=>h.rub_cell hp hc
theorem RdIs.only {bl o:Nat} {l:List Itm} (hr:RdIs (rub g a) a.heap.size bl o l) (hb:bl<a.heap.size) (h:Only g a b):RdIs (rub g b) b.heap.size bl o l:=hr.sub h.size (fun _ _ hp hc=>h.rub_cell hp hc) hb
theorem Rd.only {A:Option Addr} {n:Nat} {l:List UInt8} (hr:Rd (rub g a) a.heap.size A n l) (h:Only g a b):Rd (rub g b) b.heap.size A n l:=hr.sub h.size fun _ _ hp hc=>h.rub_cell hp hc
theorem Rd.rub {A:Option Addr} {n B:Nat} {l:List UInt8} (hr:Rd a B A n l) (hB:B≤g):Rd (Go.Proofs.YteckeagobafoiaaGreatDoor.rub g a) B A n l:=hr.sub (Nat.le_refl _) fun p _ hp hc=>by
 rw [Go.Proofs.YteckeagobafoiaaGreatDoor.rub_cell (by omega)];exact hc
end
def mask (S:Nat→Bool) (w:World):World:={ w with heap:=w.heap.mapIdx fun i o=>if S i then .cells #[] 0 else o }
theorem mask_size {S:Nat→Bool} {w:World}:(mask S w).heap.size=w.heap.size:=by simp [mask]
theorem mask_heap {S:Nat→Bool} {w:World} {k:Nat} (h:S k=false):(mask S w).heap[k]?=w.heap[k]?:=by
 unfold mask
 simp only [Array.getElem?_mapIdx,h]
 cases w.heap[k]? <;> simp
theorem mask_cell {S:Nat→Bool} {w:World} {p:Addr} (h:S p.block=false):(mask S w).cell? p=w.cell? p:=World.cell?_of_block (w:=w) (mask_heap h)
theorem mask_out {S:Nat→Bool} {w:World} {p:Addr} {u:Value} (h:(mask S w).cell? p=some u):S p.block=false:=by
 rcases hs:S p.block with _|_
 ·
  rfl
 ·
  exfalso
  have hlt:=World.block_lt_of_cell? (mask S w) p h
  rw [mask_size] at hlt
  have hb:(mask S w).heap[p.block]?=some (.cells #[] 0):=by
   unfold mask
   simp only [Array.getElem?_mapIdx]
   simp [hlt,hs]
  unfold World.cell? at h
  rw [hb] at h
  simp at h
theorem mask_sub {S:Nat→Bool} {w:World} {p:Addr} {u:Value} (h:(mask S w).cell? p=some u):w.cell? p=some u:=by rw [← mask_cell (mask_out h)];exact h
theorem mask_go {S S':Nat→Bool} {w w':World} {p:Addr} {u:Value} (h:(mask S w).cell? p=some u) (hk:∀ k,k<w.heap.size→S k=false→w'.heap[k]?=w.heap[k]?) (hs:∀ k,k<w.heap.size→S k=false→S' k=false):(mask S' w').cell? p=some u:=by
 have ho:=mask_out h
 have hc:=mask_sub h
 have hlt:=World.block_lt_of_cell? w p hc
 rw [mask_cell (hs _ hlt ho),World.cell?_of_block (w:=w) (hk _ hlt ho)]
 exact hc
theorem RdI.mask_go {S S':Nat→Bool} {w w':World} {B B':Nat} {v:Value} {x:Itm} (h:RdI (mask S w) B v x) (hB:B≤B') (hk:∀ k,k<w.heap.size→S k=false→w'.heap[k]?=w.heap[k]?) (hs:∀ k,k<w.heap.size→S k=false→S' k=false):RdI (mask S' w') B' v x :=
 h.sub hB fun _ _ _ hc=>Go.Proofs.YteckeagobafoiaaGreatDoor.mask_go hc hk hs
theorem Rd.mask_go {S S':Nat→Bool} {w w':World} {B B' n:Nat} {A:Option Addr} {l:List UInt8} (h:Rd (mask S w) B A n l) (hB:B≤B') (hk:∀ k,k<w.heap.size→S k=false→w'.heap[k]?=w.heap[k]?) (hs:∀ k,k<w.heap.size→S k=false→S' k=false):Rd (mask S' w') B' A n l :=
 h.sub hB fun _ _ _ hc=>Go.Proofs.YteckeagobafoiaaGreatDoor.mask_go hc hk hs
theorem RdI.unmask {S:Nat→Bool} {w:World} {B:Nat} {v:Value} {x:Itm} (h:RdI (mask S w) B v x):RdI w B v x:=h.sub (Nat.le_refl _) fun _ _ _ hc=>mask_sub hc
def lows (lo:Nat) (k:Nat):Bool:=decide (k<lo)
def lowsOr (lo:Nat) (v:Value) (k:Nat):Bool:=decide (k<lo)||decide (v.ownBlock=some k)
theorem lows_f {lo k:Nat}:lows lo k=false↔lo≤k:=by unfold lows;simp
theorem lowsOr_f {lo k:Nat} {v:Value}:lowsOr lo v k=false↔lo≤k∧v.ownBlock≠some k:=by unfold lowsOr;simp
def ItC (w:World) (B:Nat):List Value→List Itm→Prop
 | [],[]=>True
 | c0::c1::c2::c3::cs,x::xs=>RdI w B (.agg #[c0,c1,c2,c3]) x∧ItC w B cs xs
 | _,_=>False
theorem ItC.sub {w w':World} {B B':Nat} (hB:B≤B') (hk:∀ (p:Addr) (u:Value),p.block<B→w.cell? p=some u→w'.cell? p=some u):∀ {cs:List Value} {xs:List Itm},ItC w B cs xs→ItC w' B' cs xs
 | [],[],_=>trivial
 | c0::c1::c2::c3::cs,x::xs,h=>⟨h.1.sub hB hk,ItC.sub hB hk h.2⟩
 | [],_::_,h=>h.elim
 | [_],_,h=>by simp [ItC] at h
 | [_,_],_,h=>by simp [ItC] at h
 | [_,_,_],_,h=>by simp [ItC] at h
 | _::_::_::_::_,[],h=>h.elim
theorem ItC.mask_go {S S':Nat→Bool} {w w':World} {B B':Nat} {cs:List Value} {xs:List Itm} (h:ItC (mask S w) B cs xs) (hB:B≤B') (hk:∀ k,k<w.heap.size→S k=false→w'.heap[k]?=w.heap[k]?) (hs:∀ k,k<w.heap.size→S k=false→S' k=false):ItC (mask S' w') B' cs xs :=
 h.sub hB fun _ _ _ hc=>Go.Proofs.YteckeagobafoiaaGreatDoor.mask_go hc hk hs
theorem ItC.snoc {w:World} {B:Nat} {c0 c1 c2 c3:Value} {x:Itm} (hx:RdI w B (.agg #[c0,c1,c2,c3]) x):∀ {cs:List Value} {xs:List Itm},ItC w B cs xs→ItC w B (cs++[c0,c1,c2,c3]) (xs++[x])
 | [],[],_=>⟨hx,trivial⟩
 | c0::c1::c2::c3::cs,x::xs,h=>⟨h.1,ItC.snoc hx h.2⟩
 | [],_::_,h=>h.elim
 | [_],_,h=>by simp [ItC] at h
 | [_,_],_,h=>by simp [ItC] at h
 | [_,_,_],_,h=>by simp [ItC] at h
 | _::_::_::_::_,[],h=>h.elim
theorem ItC.len {w:World} {B:Nat}:∀ {cs:List Value} {xs:List Itm},ItC w B cs xs→cs.length=xs.length*4
 | [],[],_=>rfl
 | c0::c1::c2::c3::cs,x::xs,h=>by have:=ItC.len h.2;simp;omega
 | [],_::_,h=>h.elim
 | [_],_,h=>by simp [ItC] at h
 | [_,_],_,h=>by simp [ItC] at h
 | [_,_,_],_,h=>by simp [ItC] at h
 | _::_::_::_::_,[],h=>h.elim
theorem ItC.lie {w:World} {B b:Nat}:∀ {cs:List Value} {xs:List Itm} {o:Nat},ItC w B cs xs→(∀ j u,cs[j]?=some u→w.cell? ⟨b,o+j,none⟩=some u)→RdIs w B b o xs
 | [],[],_,_,_=>by rw [RdIs];trivial
 | c0::c1::c2::c3::cs,x::xs,o,h,hc=>by
  rw [RdIs]
  refine ⟨⟨c0,c1,c2,c3,hc 0 c0 rfl,hc 1 c1 rfl,hc 2 c2 rfl,hc 3 c3 rfl,h.1⟩,ItC.lie h.2 fun j u hj=>?_⟩
  rw [show o+4+j=o+(j+4) by omega]
  exact hc (j+4) u (by simpa using hj)
 | [],_::_,_,h,_=>h.elim
 | [_],_,_,h,_=>by simp [ItC] at h
 | [_,_],_,_,h,_=>by simp [ItC] at h
 | [_,_,_],_,_,h,_=>by simp [ItC] at h
 | _::_::_::_::_,[],_,h,_=>h.elim
def rall:List (List Itm)→Bool | []=>true|l::r=>rights l&&rall r
def sump:List (List Itm)→Nat | []=>0|l::r=>pars l+sump r
def lev:Nat→List (List Itm)→Nat|_,[]=>0|i,l::r=>max (i+deps l) (lev (i+1) r)
theorem rall_snoc:∀ (a:List (List Itm)) (t:List Itm),rall (a++[t])=(rall a&&rights t)
 | [],t=>by simp [rall]
 | l::r,t=>by rw [List.cons_append,rall,rall,rall_snoc r t,Bool.and_assoc]
theorem sump_snoc:∀ (a:List (List Itm)) (t:List Itm),sump (a++[t])=sump a+pars t
 | [],t=>by simp [sump]
 | l::r,t=>by rw [List.cons_append,sump,sump,sump_snoc r t];omega
theorem lev_snoc:∀ (a:List (List Itm)) (t:List Itm) (i:Nat),lev i (a++[t])=max (lev i a) (i+a.length+deps t)
 | [],t,i=>by simp [lev]
 | l::r,t,i=>by rw [List.cons_append,lev,lev,lev_snoc r t,List.length_cons];omega
structure ChkSt (x:Itm) (st:List (List Itm)) (p D:Nat):Prop where
 rt:right x=rall st
 pr:par x=p+sump st
 dp:dep x=max D (lev 0 st)
 ln:st.length≤D+1
 lp:st.length≤p+1
theorem ChkSt.start (x:Itm):ChkSt x [[x]] 0 0:=by
 refine ⟨?_,?_,?_,?_,?_⟩
 ·
  simp [rall,rights]
 ·
  simp [sump,pars]
 ·
  simp [lev,deps]
 ·
  simp
 ·
  simp
theorem ChkSt.pop {x:Itm} {a:List (List Itm)} {p D:Nat} (h:ChkSt x (a++[[]]) p D):ChkSt x a p D:=by
 have h1:=h.rt
 have h2:=h.pr
 have h3:=h.dp
 have h4:=h.ln
 have h5:=h.lp
 rw [rall_snoc,rights,Bool.and_true] at h1
 rw [sump_snoc,pars] at h2
 rw [lev_snoc,deps] at h3
 rw [List.length_append,List.length_singleton] at h4 h5
 exact ⟨h1,by omega,by omega,by omega,by omega⟩
theorem ChkSt.bad {x:Itm} {a:List (List Itm)} {p D:Nat} {k:Int} {n:Nat} {d:List UInt8} {l r:List Itm} (h:ChkSt x (a++[.mk k n d l::r]) p D) (ho:own k n d l=false):right x=false:=by
 rw [h.rt,rall_snoc,rights,right,ho]
 simp
theorem own_flat {k:Int} {n:Nat} {d:List UInt8} {l:List Itm} (h:own k n d l=true) (hk:¬ (k=4∨k=5)):l=[]:=by
 unfold own at h
 rw [if_neg hk] at h
 split at h
 ·
  simp at h;exact h.2
 split at h
 ·
  simp at h;exact h.2
 split at h
 ·
  simp at h;exact h.2.1
 ·
  cases h
theorem ChkSt.flat {x:Itm} {a:List (List Itm)} {p D:Nat} {k:Int} {n:Nat} {d:List UInt8} {l r:List Itm} (h:ChkSt x (a++[.mk k n d l::r]) p D) (ho:own k n d l=true) (hk:¬ (k=4∨k=5)):ChkSt x (a++[r]) (p+1) D:=by
 have hl:=own_flat ho hk
 subst hl
 have h1:=h.rt
 have h2:=h.pr
 have h3:=h.dp
 have h4:=h.ln
 have h5:=h.lp
 rw [rall_snoc,rights,right,ho,rights,Bool.and_self,Bool.true_and] at h1
 rw [sump_snoc,pars,par,pars] at h2
 rw [lev_snoc,deps,dep,if_neg hk,deps] at h3
 rw [List.length_append,List.length_singleton] at h4 h5
 refine ⟨?_,?_,?_,?_,?_⟩
 ·
  rw [h1,rall_snoc]
 ·
  rw [sump_snoc];omega
 ·
  rw [lev_snoc];omega
 ·
  rw [List.length_append,List.length_singleton];omega
 ·
  rw [List.length_append,List.length_singleton];omega
theorem ChkSt.arr {x:Itm} {a:List (List Itm)} {p D:Nat} {k:Int} {n:Nat} {d:List UInt8} {l r:List Itm} (h:ChkSt x (a++[.mk k n d l::r]) p D) (ho:own k n d l=true) (hk:k=4∨k=5):ChkSt x (a++[r]++[l]) (p+1) (max D (a.length+1)):=by
 have h1:=h.rt
 have h2:=h.pr
 have h3:=h.dp
 have h4:=h.ln
 have h5:=h.lp
 rw [rall_snoc,rights,right,ho,Bool.true_and] at h1
 rw [sump_snoc,pars,par] at h2
 rw [lev_snoc,deps,dep,if_pos hk] at h3
 rw [List.length_append,List.length_singleton] at h4 h5
 refine ⟨?_,?_,?_,?_,?_⟩
 ·
  rw [h1,rall_snoc,rall_snoc]
  cases rall a <;> cases rights r <;> cases rights l <;> rfl
 ·
  rw [sump_snoc,sump_snoc];omega
 ·
  rw [lev_snoc,lev_snoc,List.length_append,List.length_singleton];omega
 ·
  rw [List.length_append,List.length_append,List.length_singleton,List.length_singleton];omega
 ·
  rw [List.length_append,List.length_append,List.length_singleton,List.length_singleton];omega
theorem ChkSt.left {x:Itm} {a:List (List Itm)} {p D:Nat} {y:Itm} {r:List Itm} (h:ChkSt x (a++[y::r]) p D):p<par x∧D≤dep x∧a.length≤p:=by
 have h2:=h.pr
 have h3:=h.dp
 have h5:=h.lp
 rw [sump_snoc,pars] at h2
 rw [List.length_append,List.length_singleton] at h5
 cases y with
 | mk k n d l =>
  rw [par] at h2
  omega
theorem ChkSt.done {x:Itm} {p D:Nat} (h:ChkSt x [] p D):right x=true∧par x=p∧dep x=D:=by
 have h1:=h.rt
 have h2:=h.pr
 have h3:=h.dp
 rw [rall] at h1
 rw [sump] at h2
 rw [lev] at h3
 exact ⟨h1,by omega,by omega⟩
open Go.Lib (hid)
def HdSt (n c S:Nat):Prop:=(c=24∧S=1)∨(c=25∧S=2∧256≤n)∨(c=26∧S=4∧65536≤n)∨(c=27∧S=8∧4294967296≤n)
theorem HdSt.end_ {n c S:Nat} (h:HdSt n c S) (h24:24≤n) (hd:8≤S∨n<2 ^ (8*S)):c=hlow n∧S=hsz n:=by
 unfold hlow hsz
 rcases h with ⟨rfl,rfl⟩|⟨rfl,rfl,h1⟩|⟨rfl,rfl,h1⟩|⟨rfl,rfl,h1⟩ <;> simp at hd
 ·
  rw [if_neg (by omega),if_pos (by omega),if_neg (by omega),if_pos (by omega)];exact ⟨rfl,rfl⟩
 ·
  rw [if_neg (by omega),if_neg (by omega),if_pos (by omega),if_neg (by omega),if_neg (by omega),if_pos (by omega)];exact ⟨rfl,rfl⟩
 ·
  rw [if_neg (by omega),if_neg (by omega),if_neg (by omega),if_pos (by omega),if_neg (by omega),if_neg (by omega),if_neg (by omega),if_pos (by omega)];exact ⟨rfl,rfl⟩
 ·
  rw [if_neg (by omega),if_neg (by omega),if_neg (by omega),if_neg (by omega),if_neg (by omega),if_neg (by omega),if_neg (by omega),if_neg (by omega)];exact ⟨rfl,rfl⟩
theorem HdSt.next {n c S:Nat} (h:HdSt n c S) (h8:S<8) (hd:2 ^ (8*S)≤n):HdSt n (c+1) (S*2):=by
 unfold HdSt
 rcases h with ⟨rfl,rfl⟩|⟨rfl,rfl,h1⟩|⟨rfl,rfl,h1⟩|⟨rfl,rfl,h1⟩ <;> simp at hd <;> omega
theorem HdSt.bd {n c S:Nat} (h:HdSt n c S):24≤c∧c≤27∧1≤S∧S≤8:=by
 unfold HdSt at h;omega
theorem or_head (m:Int) (h0:0≤m) (h7:m≤7) (L:Nat) (hL:L<32):bits BinOp.or IntKind.u8 (m*32) (L:Int)=32*m+(L:Int):=by
 obtain ⟨a,rfl⟩:=Int.eq_ofNat_of_zero_le h0
 have e:((a:Int)*32)=((2 ^ 5*a:Nat):Int):=by rw [Int.natCast_mul];simp;omega
 rw [e,u8_or_nat _ _ (by omega) (by omega),← Nat.two_pow_add_eq_or_of_lt (i:=5) (by omega)]
 omega
theorem khead_any (m:Int) (n:Nat) (w:World) (_hm:(Lit.int .i64 m).wf=true) (hn:n<18446744073709551616) :
  Calls Tryz.prog 193 #[.int .i64 m,.int .u64 (n:Int)] w (GivesO 5 (headB m n) w):=by
 by_cases h0:m<0
 ·
  rw [headB,if_pos (.inl h0)]
  go_enter Tryz.func193,Tryz.ntmps193
  go_wp2_with fail
  go_ret
  exact ⟨_,rfl,Ob.nil_ _ _ _,Below.refl _ _⟩
 by_cases h7:7<m
 ·
  rw [headB,if_pos (.inr h7)]
  go_enter Tryz.func193,Tryz.ntmps193
  go_wp2_with fail
  go_ret
  exact ⟨_,rfl,Ob.nil_ _ _ _,Below.refl _ _⟩
 rw [headB,if_neg (by omega),hd]
 have hm0:0≤m:=by omega
 have hm7:m≤7:=by omega
 clear h0 h7
 by_cases h24:n<24
 ·
  have e1:hlow n=n:=by unfold hlow;rw [if_pos h24]
  have e2:hsz n=0:=by unfold hsz;rw [if_pos h24]
  rw [e1,e2,show be n 0=[] from rfl]
  have H1:=hid (head_one m hm0 hm7 n (by omega))
  have H2:=hid (or_head m hm0 hm7 n (by omega))
  clear e1 e2
  generalize hX:([UInt8.ofNat (32*m.toNat+n)]:List UInt8)=X at *
  have HX:Hid (X.length=1):=by rw [← hX];rfl
  clear hX
  go_enter Tryz.func193,Tryz.ntmps193
  go_wp2_with fail
  rw [H2.out]
  go_ret
  exact ⟨_,rfl,Ob.lit w X _ H1.out (Nat.le_refl _) 1 HX.out (by decide),(Below.refl _ _).alloc (Nat.le_refl _) _⟩
 ·
  have HS:Hid (24≤n):=(by omega:_≤_)
  obtain ⟨R,hR⟩:∃ q,q=hd m.toNat n:=⟨_,rfl⟩
  have e0:UInt8.ofNat (32*m.toNat+hlow n)::be n (hsz n)=R:=by rw [hR,hd]
  rw [e0]
  have HR:=hid hR
  clear hR e0
  have hx0:(0:Int)≤(n:Int):=by omega
  go_enter Tryz.func193,Tryz.ntmps193
  go_wp2_with fail
  go_loopw [6,7] (fun c s wr=>∃ C S:Nat,HdSt n C S∧c=.int .u8 (C:Int)∧s=.int .i64 (S:Int)∧wr=w) (fun _ s _=>8 - (intOf s).toNat)
  case atStart=>exact ⟨24,1,.inl ⟨rfl,rfl⟩,rfl,rfl,rfl⟩
  case round =>
   obtain ⟨C,S,hst,rfl,rfl,rfl⟩:=hrel
   obtain ⟨b1,b2,b3,b4⟩:=hst.bd
   have HST:=hid hst
   clear hst
   by_cases h8:S<8
   ·
    have h8i:decide ((S:Int)<8)=true:=by simp;omega
    by_cases hdd:n<2 ^ (8*S)
    ·
     have hq:(n:Int) / 2 ^ (8*S)=0:=by
      have:n / 2 ^ (8*S)=0:=Nat.div_eq_of_lt hdd
      exact_mod_cast this
     obtain ⟨E1,E2⟩:=HST.out.end_ HS.out (.inr hdd)
     have eR:[UInt8.ofNat (32*m.toNat+C)]++be n S=R:=by rw [HR.out,hd,E1,E2];rfl
     have HE:=hid eR
     have H1:=hid (head_one m hm0 hm7 C (by omega))
     have H2:=hid (or_head m hm0 hm7 C (by omega))
     have c2:=fun W=>put_any (n:Int) (S:Int) W hx0 (by omega)
     rw [show psz (S:Int)=S by unfold psz;omega,Int.toNat_natCast] at c2
     have C2:=hid c2
     have HL:=hid (be_length n S)
     clear E1 E2 eR c2
     go_wp2_with fail
     rw [H2.out]
     refine (C2.out _).mono ?_
     rintro e w1 ⟨rfl,hr,hb⟩
     have hr2:=hr.rd HL.out hr.lt
     rw [show (wr.alloc (.cells #[Value.int IntKind.u8 (32*m+(C:Int))] 5)).heap.size=wr.heap.size+1 by simp] at hr2
     have HR2:=hid hr2
     have HB:=hid hb
     clear hr hr2 hb
     generalize be n S=L at *
     have HX:Hid (([UInt8.ofNat (32*m.toNat+C)]:List UInt8).length=1):=rfl
     generalize ([UInt8.ofNat (32*m.toNat+C)]:List UInt8)=X at *
     go_wp2_with (first
      | (at_builtin;go_loud (refine wpList_appB rfl (.tmp 40) (.tmp 43) 29 rfl wr.heap.size 5 Tryz.underlying29 info_u8 _ _ rfl ((Ob.lit wr X _ H1.out (Nat.le_refl _) 1 HX.out (by decide)).below HB.out) _ _ _ _ _ rfl HR2.out (by rw [HX.out];omega) (Nat.le_trans (le_alloc _ _) HB.out.size) ?_;intro v1 w2 ho1 hb1;have O1:=hid ho1;have B1:=hid hb1;clear ho1 hb1))
      | fail)
     go_ret
     exact ⟨_,rfl,by rw [← HE.out];exact O1.out,(((Below.refl _ _).alloc (Nat.le_refl _) _).trans (HB.out.mono (le_alloc _ _))).trans B1.out⟩
    ·
     have hq:¬ (n:Int) / 2 ^ (8*S)=0:=by
      have:0<n / 2 ^ (8*S):=Nat.div_pos (by omega) (Nat.pow_pos (by decide))
      intro h
      have h2:n / 2 ^ (8*S)=0:=by exact_mod_cast h
      omega
     go_wp2_with fail
     go_roundw
     case rel=>exact ⟨C+1,S*2,HST.out.next h8 (by omega),by go_num,by go_num,trivial⟩
     case measure=>simp [intOf];omega
   ·
    have h8i:decide ((S:Int)<8)=false:=by simp;omega
    obtain ⟨E1,E2⟩:=HST.out.end_ HS.out (.inl (by omega))
    have eR:[UInt8.ofNat (32*m.toNat+C)]++be n S=R:=by rw [HR.out,hd,E1,E2];rfl
    have HE:=hid eR
    have H1:=hid (head_one m hm0 hm7 C (by omega))
    have H2:=hid (or_head m hm0 hm7 C (by omega))
    have c2:=fun W=>put_any (n:Int) (S:Int) W hx0 (by omega)
    rw [show psz (S:Int)=S by unfold psz;omega,Int.toNat_natCast] at c2
    have C2:=hid c2
    have HL:=hid (be_length n S)
    clear E1 E2 eR c2
    go_wp2_with fail
    rw [H2.out]
    refine (C2.out _).mono ?_
    rintro e w1 ⟨rfl,hr,hb⟩
    have hr2:=hr.rd HL.out hr.lt
    rw [show (wr.alloc (.cells #[Value.int IntKind.u8 (32*m+(C:Int))] 5)).heap.size=wr.heap.size+1 by simp] at hr2
    have HR2:=hid hr2
    have HB:=hid hb
    clear hr hr2 hb
    generalize be n S=L at *
    have HX:Hid (([UInt8.ofNat (32*m.toNat+C)]:List UInt8).length=1):=rfl
    generalize ([UInt8.ofNat (32*m.toNat+C)]:List UInt8)=X at *
    go_wp2_with (first
     | (at_builtin;go_loud (refine wpList_appB rfl (.tmp 40) (.tmp 43) 29 rfl wr.heap.size 5 Tryz.underlying29 info_u8 _ _ rfl ((Ob.lit wr X _ H1.out (Nat.le_refl _) 1 HX.out (by decide)).below HB.out) _ _ _ _ _ rfl HR2.out (by rw [HX.out];omega) (Nat.le_trans (le_alloc _ _) HB.out.size) ?_;intro v1 w2 ho1 hb1;have O1:=hid ho1;have B1:=hid hb1;clear ho1 hb1))
     | fail)
    go_ret
    exact ⟨_,rfl,by rw [← HE.out];exact O1.out,(((Below.refl _ _).alloc (Nat.le_refl _) _).trans (HB.out.mono (le_alloc _ _))).trans B1.out⟩
end Go.Proofs.YteckeagobafoiaaGreatDoor
