import Derived.Test.YtbnfkjkoinbkgaaGreatDoorVAbb
import Derived.Test.YtbnfkjkoinbkgaaGreatDoorVCborR
import Derived.Test.YtbnfkjkoinbkgaaGreatDoorVNumB
import Derived.Test.YtbnfkjkoinbkgaaGreatDoorVNumG
import Derived.Deep.RegionHeld3
namespace Go.Proofs.YtbnfkjkoinbkgaaGreatDoor
set_option maxRecDepth 100000
set_option maxHeartbeats 16000000
open Go.RowKit
theorem Qvl{l:LB}{e:Int}(h:Qca l=.error e):e=30∨e=31:=by
 cases l with
 | nil=>rw[Qca] at h;cases h;exact .inl rfl
 | cons c t =>
  rw[Qca] at h
  split at h
  ·
   cases h;exact .inr rfl
  split at h
  ·
   cases h
  split at h
  ·
   cases h;exact .inl rfl
  split at h
  ·
   cases h;exact .inr rfl
  ·
   cases h
def Qnm(sub:Nat→List UInt8→Except Int (Itm×Nat×List UInt8)):Prop:=∀ p l e,sub p l=.error e→e=30∨e=31∨e=32
theorem Qp3{sub:Nat→List UInt8→Except Int (Itm×Nat×List UInt8)}(hs:Qnm sub):∀ (n p:Nat) (l:LB) (e:Int),Qg4 sub n p l=.error e→e=30∨e=31∨e=32
 | 0,p,l,e,h=>by rw[Qg4] at h;cases h
 | n+1,p,l,e,h=>by
  rw[Qg4] at h
  split at h
  next h1=>cases h;exact hs _ _ _ h1
  next h1 =>
  split at h
  next h2=>cases h;exact Qp3 hs n _ _ _ h2
  ·
   cases h
theorem Qqm{sub:Nat→List UInt8→Except Int (Itm×Nat×List UInt8)}(hs:Qnm sub):∀ (f p:Nat) (l:LB) (e:Int),Qez sub f p l=.error e→e=30∨e=31∨e=32
 | 0,p,l,e,h=>by rw[Qez] at h;cases h;exact .inl rfl
 | f+1,p,[],e,h=>by rw[Qez] at h;cases h;exact .inl rfl
 | f+1,p,c::r,e,h=>by
  rw[Qez] at h
  split at h
  ·
   cases h
  split at h
  next h1=>cases h;exact hs _ _ _ h1
  next h1 =>
  split at h
  next h2=>cases h;exact Qqm hs f _ _ _ h2
  ·
   cases h
theorem Qta{m n p:Nat}{r:LB}{e:Int}(h:Qe4 m n p r=.error e):e=30∨e=31:=by
 rw[Qe4] at h
 split at h
 ·
  cases h;exact .inr rfl
 split at h
 ·
  cases h;exact .inl rfl
 ·
  cases h
theorem Qmt{sub:Nat→List UInt8→Except Int (Itm×Nat×List UInt8)}{deep:Bool}(hs:Qnm sub):Qnm (Qco sub deep):=by
 intro p l e h;cases l with
 | nil=>rw[Qco] at h;cases h;exact .inl rfl
 | cons c t =>
  rw[Qco] at h
  split at h
  ·
   cases h;exact .inr (.inr rfl)
  split at h
  ·
   split at h
   next h1=>cases h;exact Qqm hs _ _ _ _ h1
   ·
    cases h
  split at h
  next h1 =>
   cases h
   rcases Qvl h1 with h|h
   ·
    exact .inl h
   ·
    exact .inr (.inl h)
  split at h
  ·
   cases h
  split at h
  ·
   split at h
   next h1=>cases h;exact Qp3 hs _ _ _ _ h1
   ·
    cases h
  ·
   rcases Qta h with h|h
   ·
    exact .inl h
   ·
    exact .inr (.inl h)
theorem Qv0:∀ d:Nat,Qnm (dec d)
 | 0=>Qmt (fun _ _ _ h=>by cases h;exact .inr (.inr rfl))
 | d+1=>Qmt (Qv0 d)
def Qkk(x:Itm):Prop:=Qbd x=true∧dep x≤8∧par x≤4096
theorem Qvw{x:Itm}(h:Qkk x):enc x=(wri x,0):=by
 unfold enc;rw[if_neg (by rw[h.1];decide),if_neg (by have:=h.2;omega)]
theorem Qi3{x:Itm}(h:Qkk x)(hs:Siz x)(m:LB):Qba (wri x++m)=(x,((wri x).length:Int),0):=by
 unfold Qba;rw[Qm8 x 8 0 m h.1 hs h.2.1 (by have:=h.2.2;omega)]
 simp
theorem Qm7(l:LB):(∃ e:Int,(e=30∨e=31∨e=32)∧Qba l=(.zero,0,e)) ∨
  ∃ x r,l=wri x++r∧Qkk x∧Siz x∧Qba l=(x,((wri x).length:Int),0):=by
 unfold Qba;cases h:dec 8 0 l with
 | error e=>exact .inl ⟨e,Qv0 8 _ _ _ h,rfl⟩
 | ok v =>
  obtain⟨x,p,r⟩:=v;obtain⟨h1,h2,h3,h4,h5,h6⟩:=Qqp 8 0 l x p r (by decide) h;refine .inr ⟨x,r,h1,⟨h2,h4,by omega⟩,h3,?_⟩;subst h1;simp
open Go.Lib (hid)
def Qbi(t:TypeId)(l:LB)(w:World)(e:Ending)(w':World):Prop:=∃ v,e=.returned v∧Ob w' w.heap.size t v l∧Below w.heap.size w w'
theorem Q09(x n k:Nat)(hk:k<n):(be x n).take (k+1)=(be x n).take k++[UInt8.ofNat (x / 256 ^ (n - 1 - k))]:=by
 rw[Qdb _ _ (by rw[Qa9];exact hk)]
 simp[be,List.getD,hk]
theorem Qxw(x:Int)(h0:0≤x)(s:Nat):#[Value.int .u8 (x / 2 ^ (8*s) % 256)]=(([UInt8.ofNat (x.toNat / 256 ^ s)]:LB).map fun u=>Value.int .u8 (u.toNat:Int)).toArray:=by
 rw[Qi6 x h0 s];rfl
theorem Qkv(x:Int)(n:Nat)(w:World)(hx0:0≤x)(_hx1:x<18446744073709551616)(hn:n≤8) :
  Calls Tryz.prog 38 #[.int .u64 x,.int .i64 (n:Int)] w (Qbi 5 (be x.toNat n) w):=by
 rcases Nat.eq_zero_or_pos n with h0|h0
 ·
  subst h0;go_enter Tryz.func38,Tryz.ntmps38;go_wp2
  go_ret;exact⟨_,rfl,Ob.nil_ _ _ _,Below.refl _ _⟩
 ·
  go_enter Tryz.func38,Tryz.ntmps38;go_wp2
  go_loopw [5,6] (fun v i wr=>∃ r:Nat,r≤n∧i=.int .i64 ((r:Int) - 1)∧Hid (Ob wr w.heap.size 5 v ((be x.toNat n).take (n - r)))∧Hid (Below w.heap.size w wr)) (fun _ i _=>((intOf i)+1).toNat)
  case atStart=>exact⟨n,Nat.le_refl _,rfl,by rw[Nat.sub_self,List.take_zero];exact Ob.nil_ _ _ _,Below.refl _ _⟩
  case round =>
   obtain⟨r,hr,rfl,hob,hbel⟩:=hrel;by_cases hlt:0<r
   ·
    obtain⟨q,rfl⟩:∃ q,r=q+1:=⟨r - 1,by omega⟩
    obtain⟨X,hX⟩:∃ X,X=UInt8.ofNat (x.toNat / 256 ^ q):=⟨_,rfl⟩
    have hbd:((be x.toNat n).take (n - (q+1))).length+1≤140737488355328:=by rw[List.length_take,Qa9];omega
    have HBD:=hid hbd;have hbz:w.heap.size≤wr.heap.size:=hbel.out.size;have HBZ:=hid hbz;have HX:=hid hX;have e1:((q+1:Nat):Int) - 1=(q:Int):=by omega
    rw[e1]
    clear hX hbd hbz e1;go_wp2_with (first
     | (at_builtin;refine Qam rfl (.tmp 17) (.tmp 24) 29 rfl w.heap.size 5 Tryz.underlying29 Qak _ _ rfl (hob.out.alloc _) _ _ 1 1 [X] rfl (Rd.lit wr _ rfl [X] _ _ (by rw[HX.out];exact Qxw x hx0 q) 1 rfl) HBD.out (Nat.le_trans HBZ.out (Qaa _ _)) ?_;intro v1 w1 ho1 hb1;have O1:=hid ho1;have B1:=hid hb1;clear ho1 hb1)
     | fail)
    go_roundw
    case rel =>
     refine⟨q,by omega,rfl,?_,(((hbel.out).alloc HBZ.out _).trans B1.out)⟩;have e:=Q09 x.toNat n (n - (q+1)) (by omega);rw[show n - (q+1)+1=n - q by omega,show n - 1 - (n - (q+1))=q by omega,← HX.out] at e
     show Ob _ _ _ _ _;rw[e]
     exact O1.out
    case measure=>simp[intOf]
   ·
    obtain rfl:r=0:=by omega
    have ho:=hob.out;rw[Nat.sub_zero,List.take_of_length_le (by rw[Qa9];exact Nat.le_refl _)] at ho
    have HO:=hid ho;clear ho;go_wp2_with fail;go_ret;exact⟨_,rfl,HO.out,hbel.out⟩
def Qdh(m:Int)(n:Nat):LB:=if m<0∨7<m then [] else hd m.toNat n
theorem Ob.weak{w:World}{base base':Nat}{t:TypeId}{v:Value}{l:LB}(h:Ob w base t v l)(hb:base'≤base):Ob w base' t v l :=
 ⟨h.1,h.2.imp id (fun ⟨g,cap,cur,h1,h2,h3⟩=>⟨g,cap,cur,h1,Nat.le_trans hb h2,h3⟩)⟩
theorem Ob.rdn{w:World}{base n:Nat}{t:TypeId}{v:Value}{l:LB}(h:Ob w base t v l)(hl:l.length=n):∃ (A:OA) (c:Nat),v=.slice A n c∧n≤c∧c≤maxLen∧Rd w w.heap.size A n l:=by
 subst hl;exact h.rd
theorem Qhj(m:Int)(h0:0≤m)(h7:m≤7)(L:Nat)(hL:L≤27):#[Value.int .u8 (32*m+(L:Int))]=(([UInt8.ofNat (32*m.toNat+L)]:LB).map fun u=>Value.int .u8 (u.toNat:Int)).toArray:=by
 obtain⟨a,rfl⟩:=Int.eq_ofNat_of_zero_le h0;simp only[Int.toNat_natCast,List.map_cons,List.map_nil];rw[Qqy _ (by omega)]
 rw[Int.natCast_add,Int.natCast_mul]
 rfl
theorem Qej(m:Int)(n:Nat)(w:World)(_hm:(Lit.int .i64 m).wf=true)(hn:n<18446744073709551616) :
  Calls Tryz.prog 19 #[.int .i64 m,.int .u64 (n:Int)] w (Qbi 5 (Qdh m n) w):=by
 by_cases h0:m<0
 ·
  rw[Qdh,if_pos (.inl h0)]
  go_enter Tryz.func19,Tryz.ntmps19;go_wp2_with fail;go_ret;exact⟨_,rfl,Ob.nil_ _ _ _,Below.refl _ _⟩
 by_cases h7:7<m
 ·
  rw[Qdh,if_pos (.inr h7)]
  go_enter Tryz.func19,Tryz.ntmps19;go_wp2_with fail;go_ret;exact⟨_,rfl,Ob.nil_ _ _ _,Below.refl _ _⟩
 ·
  rw[Qdh,if_neg (by omega),hd]
  have hm0:0≤m:=by omega
  have hm7:m≤7:=by omega
  have C1:=hid (Qtp n w hn);have hl:=Qgn n;have hz:=Qa1 n;have c2:=fun W=>Qkv (n:Int) (hsz n) W (by omega) (by omega) hz
  rw[Int.toNat_natCast] at c2
  have C2:=hid c2;clear c2;have HL:=hid (Qa9 n (hsz n));generalize hsz n=S at *;generalize Qdq n=L at *;have H1:=hid (Qhj m hm0 hm7 L hl);clear h0 h7;go_enter Tryz.func19,Tryz.ntmps19;go_wp2_with fail;refine C1.out.mono ?_;rintro e w1 ⟨rfl,rfl⟩;go_wp2_with fail;refine(C2.out _).mono ?_;rintro e w1 ⟨v,rfl,ho,hb⟩;obtain⟨A,c,rfl,hc,hc2,hr⟩:=ho.rdn HL.out;have HR:=hid hr;have HB:=hid hb;clear ho hr hb;go_wp2_with (first
   | (at_builtin;go_loud (refine Qam rfl (.tmp 23) (.tmp 26) 29 rfl w.heap.size 5 Tryz.underlying29 Qak _ _ rfl ((Ob.lit w [UInt8.ofNat (32*m.toNat+L)] _ H1.out zr 1 rfl (by decide)).below HB.out) _ _ _ _ _ rfl HR.out (by simp;omega) (Nat.le_trans (Qaa _ _) HB.out.size) ?_;intro v1 w2 ho1 hb1;have O1:=hid ho1;have B1:=hid hb1;clear ho1 hb1))
   | fail)
  go_ret;exact⟨_,rfl,O1.out,(zb.trans (HB.out.mono (Qaa _ _))).trans B1.out⟩
section
variable {P:Program}{w:World}
theorem Ql3{ops:Array Oper}{o:Oper}{a:Act}{K:Act→World→Prop}{Q:Exit→Act→World→Prop}{E:Prop}(hgd:o.guard=none)(s x:Operand)(t:TypeId)
  (ho:o.op=.call { callee:=.builtin .append,args:=#[s,x],argTypes:=#[t,t] })
  (base:Nat) (e:TypeId) (ht:P.underlying t=some (.slice e)) (hinfo:(P.info? e).map (fun i=>(i.zero,i.size,i.bytes))=some (some (.int .u8 0),1,1))
  (v:Value) (l:LB) (hs:a.eval s=v) (hown:Ob w base e v l) (B:Nat) (A:OA) (m c:Nat) (news:LB) (hx:a.eval x=.slice A m c) (hr:Rd w B A m news)
  (hbound:l.length+m≤140737488355328) (hbase:base≤w.heap.size)
  (h:∀ v' w',Ob w' base e v' (l++news)→Below base w w'→K (a.put o.dst v') w'):if Region.wanted o (yielded ops a.tmps)=true then Oper.wp P o a w K Q else E:=by
 have hw:Region.wanted o (yielded ops a.tmps)=true:=by simp[Region.wanted,hgd]
 rw[if_pos hw]
 obtain⟨v',w',hrun,h2,h3,h4⟩:=Qkt (P:=P) w base t o.type e ht hinfo v l hown B A m c news hr hbound hbase;unfold Oper.wp execOp;simp only[ho,resolve,invoke,builtin,Sem.run_bind,Sem.run_pure,Result.andThen_ok,List.map_toArray,List.map_cons,List.map_nil,hs,hx,hrun];exact h v' w' h2 ⟨h3.os,h3.tape,h3.output,h3.size,fun k hk=>h3.block k (by omega) (fun e=>by have:=(World.ownsRow.lt hown k e.symm).1;omega)⟩
end
theorem Qh3(k:Int)(hk:k=2∨k=3)(nd cd cl B:Nat)(A AL:OA)(d:LB)(w:World)(hB:B≤w.heap.size)(hrd:Rd w B A nd d)(_hc:nd≤cd)(hlen:(wri (.mk k 0 d [])).length≤140737488355328) :
  Calls Tryz.prog 104 #[.agg #[.int .i64 k,.int .u64 0,.slice A nd cd,.slice AL 0 cl]] w (Qbi 5 (wri (.mk k 0 d [])) w):=by
 have e:wri (.mk k 0 d [])=hd k.toNat d.length++d:=by rw[wri,if_neg (by omega),if_pos hk]
 rw[e] at hlen ⊢
 rw[hrd.1] at hlen ⊢
 have hl:=hrd.1;rw[List.length_append,Qbo,hl] at hlen
 have c1:=fun W=>Qej k nd W (by rcases hk with rfl|rfl <;> decide) (by omega)
 have eh:Qdh k nd=hd k.toNat nd:=by rw[Qdh,if_neg (by omega)]
 rw[eh] at c1
 have hw:IntKind.u64.wrap (nd:Int)=(nd:Int):=by rw[IntKind.wrap_u64];omega
 have c2:=c1;rw[← hw] at c2
 have C1:=hid c2;clear hw c2;have HL:=hid (Qbo k.toNat nd);have hz:=Qa1 nd;have HD:=hid hrd;clear c1 eh e hrd hl;generalize hd k.toNat nd=H at *;generalize hsz nd=Z at *;rcases hk with rfl|rfl
 ·
  go_enter Tryz.func104,Tryz.ntmps104;go_wp2_with fail;have f0:(w.alloc (zo1 2 0 A nd cd AL 0 cl)).cell? ⟨w.heap.size,0,none⟩=some (.int .i64 2):=by simp
  have f2:(w.alloc (zo1 2 0 A nd cd AL 0 cl)).cell? ⟨w.heap.size,2,none⟩=some (.slice A nd cd):=by simp
  have FB:=hid ((Below.refl w.heap.size w).alloc zr (zo1 2 0 A nd cd AL 0 cl));have FZ:Hid (w.heap.size+1≤(w.alloc (zo1 2 0 A nd cd AL 0 cl)).heap.size):=(by simp:_≤_)
  generalize w.alloc (zo1 2 0 A nd cd AL 0 cl)=W0 at *;have hB0:=hid hB;clear hB;go_region_held3 (fun W=>W.cell? ⟨w.heap.size,0,none⟩=some (.int .i64 2)∧W.cell? ⟨w.heap.size,2,none⟩=some (.slice A nd cd))
   (first|(exact⟨f0,f2⟩)|(exact⟨(HB.out.cell (p:=⟨w.heap.size,0,none⟩) FZ.out).trans f0,(HB.out.cell (p:=⟨w.heap.size,2,none⟩) FZ.out).trans f2⟩)|(exact⟨(B1.out.cell (p:=⟨w.heap.size,0,none⟩) (Nat.lt_succ_self _)).trans ((HB.out.cell (p:=⟨w.heap.size,0,none⟩) FZ.out).trans f0),(B1.out.cell (p:=⟨w.heap.size,2,none⟩) (Nat.lt_succ_self _)).trans ((HB.out.cell (p:=⟨w.heap.size,2,none⟩) FZ.out).trans f2)⟩)|fail)
   (first
    | (go_at_call 19;refine(C1.out _).mono ?_;rintro e w1 ⟨v,rfl,ho,hb⟩;have HO:=hid ho;have HB:=hid (((Below.refl W0.heap.size W0).drew).trans hb);clear ho hb)
    | (refine Ql3 (by rfl) (.tmp 25) (.tmp 27) 29 (by rfl) (w.heap.size+1) 5 Tryz.underlying29 Qak _ H (by rfl) (HO.out.weak FZ.out) B A nd cd d (by rfl) ((HD.out.below (FB.out.mono hB0.out)).below (HB.out.mono (Nat.le_trans hB0.out (Nat.le_trans (Nat.le_succ _) FZ.out)))) (by rw[HL.out];omega) (Nat.le_trans FZ.out HB.out.size) ?_;intro v1 w2 ho1 hb1;have O1:=hid ho1;have B1:=hid hb1;clear ho1 hb1)
    | fail)
  go_wp2_with fail;go_ret;exact⟨_,rfl,O1.out.weak (Nat.le_succ _),(FB.out.trans (HB.out.mono (Nat.le_trans (Nat.le_succ _) FZ.out))).trans (B1.out.mono (Nat.le_succ _))⟩
 ·
  go_enter Tryz.func104,Tryz.ntmps104;go_wp2_with fail;have f0:(w.alloc (zo1 3 0 A nd cd AL 0 cl)).cell? ⟨w.heap.size,0,none⟩=some (.int .i64 3):=by simp
  have f2:(w.alloc (zo1 3 0 A nd cd AL 0 cl)).cell? ⟨w.heap.size,2,none⟩=some (.slice A nd cd):=by simp
  have FB:=hid ((Below.refl w.heap.size w).alloc zr (zo1 3 0 A nd cd AL 0 cl));have FZ:Hid (w.heap.size+1≤(w.alloc (zo1 3 0 A nd cd AL 0 cl)).heap.size):=(by simp:_≤_)
  generalize w.alloc (zo1 3 0 A nd cd AL 0 cl)=W0 at *;have hB0:=hid hB;clear hB;go_region_held3 (fun W=>W.cell? ⟨w.heap.size,0,none⟩=some (.int .i64 3)∧W.cell? ⟨w.heap.size,2,none⟩=some (.slice A nd cd))
   (first|(exact⟨f0,f2⟩)|(exact⟨(HB.out.cell (p:=⟨w.heap.size,0,none⟩) FZ.out).trans f0,(HB.out.cell (p:=⟨w.heap.size,2,none⟩) FZ.out).trans f2⟩)|(exact⟨(B1.out.cell (p:=⟨w.heap.size,0,none⟩) (Nat.lt_succ_self _)).trans ((HB.out.cell (p:=⟨w.heap.size,0,none⟩) FZ.out).trans f0),(B1.out.cell (p:=⟨w.heap.size,2,none⟩) (Nat.lt_succ_self _)).trans ((HB.out.cell (p:=⟨w.heap.size,2,none⟩) FZ.out).trans f2)⟩)|fail)
   (first
    | (go_at_call 19;refine(C1.out _).mono ?_;rintro e w1 ⟨v,rfl,ho,hb⟩;have HO:=hid ho;have HB:=hid (((Below.refl W0.heap.size W0).drew).trans hb);clear ho hb)
    | (refine Ql3 (by rfl) (.tmp 25) (.tmp 27) 29 (by rfl) (w.heap.size+1) 5 Tryz.underlying29 Qak _ H (by rfl) (HO.out.weak FZ.out) B A nd cd d (by rfl) ((HD.out.below (FB.out.mono hB0.out)).below (HB.out.mono (Nat.le_trans hB0.out (Nat.le_trans (Nat.le_succ _) FZ.out)))) (by rw[HL.out];omega) (Nat.le_trans FZ.out HB.out.size) ?_;intro v1 w2 ho1 hb1;have O1:=hid ho1;have B1:=hid hb1;clear ho1 hb1)
    | fail)
  go_wp2_with fail;go_ret;exact⟨_,rfl,O1.out.weak (Nat.le_succ _),(FB.out.trans (HB.out.mono (Nat.le_trans (Nat.le_succ _) FZ.out))).trans (B1.out.mono (Nat.le_succ _))⟩
theorem Qnq:∀ (a b:List Itm),wrs (a++b)=wrs a++wrs b
 | [],b=>by rw[wrs];rfl
 | x::r,b=>by rw[List.cons_append,wrs,wrs,Qnq r b,List.append_assoc]
theorem Qkl(l:List Itm)(j:Nat)(h:j<l.length):wrs (l.take (j+1))=wrs (l.take j)++wri (l[j]'h):=by
 rw[List.take_succ_eq_append_getElem h,Qnq,wrs,wrs,List.append_nil]
theorem Qec(l:List Itm)(j:Nat):(wrs (l.take j)).length≤(wrs l).length:=by
 conv=>rhs;rw[← List.take_append_drop j l,Qnq,List.length_append]
 omega
theorem Qfu:∀ {l:List Itm},Qan l=true→∀ {i:Nat} (hi:i<l.length),Qbd (l[i]'hi)=true
 | [],_,_,hi=>absurd hi (Nat.not_lt_zero _)
 | x::r,h,0,_=>by rw[Qan,Bool.and_eq_true] at h;exact h.1
 | x::r,h,i+1,hi=>by rw[Qan,Bool.and_eq_true] at h;exact Qfu h.2 (i:=i) (by simpa using hi)
theorem Qzd(w:World)(o:Obj):w.heap.size+1≤(w.alloc o).heap.size:=by simp
def Qpj(m:Nat):Prop:=∀ (x:Itm) (v:Value) (w:World) (B:Nat),par x<m→Qbd x=true→(wri x).length≤140737488355328→B≤w.heap.size→RdI w B v x →
  Calls Tryz.prog 104 #[v] w (Qbi 5 (wri x) w)
theorem Qn5(m N nd cd cl B:Nat)(A AL:OA)(l:List Itm)(w:World)(hm:1+Qa5 l<m+1)(hB:B≤w.heap.size)(hlen:(hd 4 N++wrs l).length≤140737488355328)(hrt:Qan l=true)(h5:N≤cl∧N≤140737488355328)
  (IH:Hid (Qpj m)) (H7:Hid (0<N→∃ b o,AL=some ⟨b,o,none⟩∧b<B∧RdIs w B b o l)) (HL:Hid (l.length=N)) :
  Calls Tryz.prog 104 #[.agg #[.int .i64 4,.int .u64 0,.slice A nd cd,.slice AL N cl]] w (Qbi 5 (hd 4 N++wrs l) w):=by
 have C1:=hid (fun W=>Qej 4 N W (by decide) (by omega));have HH:Hid (Qdh 4 N=hd 4 N):=by show _=_;rw[Qdh,if_neg (by decide)];rfl
 obtain⟨H,hH⟩:∃ H,H=hd 4 N:=⟨_,rfl⟩
 rw[← hH] at hlen ⊢
 rw[HH.out,← hH] at C1
 rw[List.length_append] at hlen
 have HRT:=hid hrt;have HLEN:=hid hlen;clear hrt hlen HH hH;go_enter Tryz.func104,Tryz.ntmps104;go_wp2_with fail;refine(C1.out _).mono ?_;rintro e w1 ⟨v,rfl,ho,hb⟩;have HO:=hid ho;have HB:=hid hb;clear ho hb;go_wp2_with fail;go_loopw [3,4] (fun bv i wr=>∃ j:Nat,j≤N∧i=.int .i64 j∧Hid (Ob wr (w.heap.size+1) 5 bv (H++wrs (l.take j)))∧Hid (Below (w.heap.size+1) (w.alloc (zo1 4 0 A nd cd AL N cl)) wr))
  (fun _ i _=>N - (intOf i).toNat)
 case atStart=>exact⟨0,Nat.zero_le _,rfl,by show Ob _ _ _ _ _;rw[List.take_zero,wrs,List.append_nil];exact HO.out.weak (by simp),((Below.refl _ _).alloc (by simp) _).trans (HB.out.mono (by simp))⟩
 case round =>
  obtain⟨j,hj,rfl,hob,hbel⟩:=hrel;have hb3:wr.cell? ⟨w.heap.size,3,none⟩=some (.slice AL N cl):=(hbel.out.cell (p:=⟨w.heap.size,3,none⟩) (by simp)).trans (by simp);have hb0:wr.cell? ⟨w.heap.size,0,none⟩=some (.int .i64 4):=(hbel.out.cell (p:=⟨w.heap.size,0,none⟩) (by simp)).trans (by simp);have hsz:w.heap.size+1≤wr.heap.size:=by have:=hbel.out.size;simpa using this
  by_cases hlt:j<N
  ·
   obtain⟨b,o,rfl,hb,hs⟩:=H7.out (by omega);obtain⟨c0,c1,c2,c3,g0,g1,g2,g3,gx⟩:=hs.get j (by rw[HL.out];exact hlt);have hs':Below w.heap.size w wr:=zb.trans (hbel.out.mono (by omega));have e0:wr.cell? ⟨b,o+j*4,none⟩=some c0:=(hs'.cell (p:=⟨b,o+j*4,none⟩) (by show b<_;omega)).trans g0;have e1:wr.cell? ⟨b,o+j*4+1,none⟩=some c1:=(hs'.cell (p:=⟨b,o+j*4+1,none⟩) (by show b<_;omega)).trans g1;have e2:wr.cell? ⟨b,o+j*4+2,none⟩=some c2:=(hs'.cell (p:=⟨b,o+j*4+2,none⟩) (by show b<_;omega)).trans g2;have e3:wr.cell? ⟨b,o+j*4+3,none⟩=some c3:=(hs'.cell (p:=⟨b,o+j*4+3,none⟩) (by show b<_;omega)).trans g3
   have hjl:j<l.length:=by rw[HL.out];exact hlt
   have htk:=Qkl l j hjl;have htl:=Qec l (j+1);have hpg:par (l[j]'hjl)≤Qa5 l:=Qdz _;rw[htk,List.length_append] at htl
   have hll:=HLEN.out;have C1:=hid (IH.out (l[j]'hjl) _ wr B (by omega) (Qfu HRT.out hjl) (by omega) (by omega) (gx.below (hs'.mono hB)));have HTK:=hid htk;have HBD:Hid ((H++wrs (l.take j)).length+(wri (l[j]'hjl)).length≤140737488355328):=by show _≤_;rw[List.length_append];omega
   generalize wri (l[j]'hjl)=WX at *;clear g0 g1 g2 g3 gx hs hs' htk htl hll hpg;go_wp2_with fail;refine C1.out.mono ?_;rintro e w2 ⟨v2,rfl,ho2,hb2⟩;obtain⟨A2,cp2,rfl,hc2,hc3,hr2⟩:=ho2.rd;have HR2:=hid hr2;have HB2:=hid hb2;have HZ2:Hid (w.heap.size+1≤w2.heap.size):=Nat.le_trans hsz hb2.size;clear ho2 hr2 hb2 hb3 hb0 e0 e1 e2 e3;go_wp2_with (first
    | (at_builtin;refine Qam rfl (.tmp 45) (.tmp 51) 29 rfl (w.heap.size+1) 5 Tryz.underlying29 Qak _ _ rfl (hob.out.below HB2.out) _ _ _ _ _ rfl HR2.out HBD.out HZ2.out ?_;intro v3 w3 ho3 hb3;have O3:=hid ho3;have B3:=hid hb3;clear ho3 hb3)
    | fail)
   go_roundw
   case rel=>exact⟨j+1,by omega,by go_num,by show Ob _ _ _ _ _;rw[HTK.out,← List.append_assoc];exact O3.out,(hbel.out.trans (HB2.out.mono hsz)).trans B3.out⟩
   case measure=>simp[intOf];omega
  ·
   obtain rfl:j=N:=by omega
   have hfin:=hob.out;rw[List.take_of_length_le (by rw[HL.out];exact Nat.le_refl _)] at hfin
   have HF:=hid hfin;have HS:=hid (((Below.refl w.heap.size w).alloc zr _).trans (hbel.out.mono (by omega)));clear hfin;go_wp2_with fail;go_ret;exact⟨_,rfl,HF.out.weak (Nat.le_succ _),HS.out⟩
theorem Qn4(m N nd cd cl B:Nat)(A AL:OA)(l:List Itm)(w:World)(hm:1+Qa5 l<m+1)(hB:B≤w.heap.size)(hlen:(0x9f::(wrs l++[0xff])).length≤140737488355328)(hrt:Qan l=true)(h5:N≤cl∧N≤140737488355328)
  (IH:Hid (Qpj m)) (H7:Hid (0<N→∃ b o,AL=some ⟨b,o,none⟩∧b<B∧RdIs w B b o l)) (HL:Hid (l.length=N)) :
  Calls Tryz.prog 104 #[.agg #[.int .i64 5,.int .u64 0,.slice A nd cd,.slice AL N cl]] w (Qbi 5 (0x9f::(wrs l++[0xff])) w):=by
 obtain⟨H,hH⟩:∃ H:LB,H=[0x9f]:=⟨_,rfl⟩
 have hH1:H.length=1:=by rw[hH];rfl
 have eq:0x9f::(wrs l++[0xff])=(H++wrs l)++[0xff]:=by rw[hH];rfl
 rw[eq] at hlen ⊢
 rw[List.length_append,List.length_append] at hlen
 simp only[List.length_cons,List.length_nil] at hlen;have HRT:=hid hrt;have HLEN:Hid (H.length+(wrs l).length≤140737488355328):=by show _≤_;omega
 have HFIN:Hid ((H++wrs l).length+1≤140737488355328):=by show _≤_;rw[List.length_append];omega
 have HH:=hid hH;clear hrt hlen hH hH1 eq;go_enter Tryz.func104,Tryz.ntmps104;go_wp2_with fail;go_loopw [3,4] (fun bv i wr=>∃ j:Nat,j≤N∧i=.int .i64 j∧Hid (Ob wr (w.heap.size+1) 5 bv (H++wrs (l.take j)))∧Hid (Below (w.heap.size+1) (w.alloc (zo1 5 0 A nd cd AL N cl)) wr))
  (fun _ i _=>N - (intOf i).toNat)
 case atStart=>exact⟨0,Nat.zero_le _,rfl,by show Ob _ _ _ _ _;rw[List.take_zero,wrs,List.append_nil,HH.out];have h:=Ob.lit (base:=w.heap.size+1) (t:=5) (w.alloc (zo1 5 0 A nd cd AL N cl)) [0x9f] #[.int .u8 159] rfl (Qzd _ _) 1 rfl (by decide);simpa using h,(Below.refl _ _).alloc (Qzd _ _) _⟩
 case round =>
  obtain⟨j,hj,rfl,hob,hbel⟩:=hrel;have hb3:wr.cell? ⟨w.heap.size,3,none⟩=some (.slice AL N cl):=(hbel.out.cell (p:=⟨w.heap.size,3,none⟩) (by simp)).trans (by simp);have hb0:wr.cell? ⟨w.heap.size,0,none⟩=some (.int .i64 5):=(hbel.out.cell (p:=⟨w.heap.size,0,none⟩) (by simp)).trans (by simp);have hsz:w.heap.size+1≤wr.heap.size:=by have:=hbel.out.size;simpa using this
  by_cases hlt:j<N
  ·
   obtain⟨b,o,rfl,hb,hs⟩:=H7.out (by omega);obtain⟨c0,c1,c2,c3,g0,g1,g2,g3,gx⟩:=hs.get j (by rw[HL.out];exact hlt);have hs':Below w.heap.size w wr:=zb.trans (hbel.out.mono (by omega));have e0:wr.cell? ⟨b,o+j*4,none⟩=some c0:=(hs'.cell (p:=⟨b,o+j*4,none⟩) (by show b<_;omega)).trans g0;have e1:wr.cell? ⟨b,o+j*4+1,none⟩=some c1:=(hs'.cell (p:=⟨b,o+j*4+1,none⟩) (by show b<_;omega)).trans g1;have e2:wr.cell? ⟨b,o+j*4+2,none⟩=some c2:=(hs'.cell (p:=⟨b,o+j*4+2,none⟩) (by show b<_;omega)).trans g2;have e3:wr.cell? ⟨b,o+j*4+3,none⟩=some c3:=(hs'.cell (p:=⟨b,o+j*4+3,none⟩) (by show b<_;omega)).trans g3
   have hjl:j<l.length:=by rw[HL.out];exact hlt
   have htk:=Qkl l j hjl;have htl:=Qec l (j+1);have hpg:par (l[j]'hjl)≤Qa5 l:=Qdz _;rw[htk,List.length_append] at htl
   have hll:=HLEN.out;have C1:=hid (IH.out (l[j]'hjl) _ wr B (by omega) (Qfu HRT.out hjl) (by omega) (by omega) (gx.below (hs'.mono hB)));have HTK:=hid htk;have HBD:Hid ((H++wrs (l.take j)).length+(wri (l[j]'hjl)).length≤140737488355328):=by show _≤_;rw[List.length_append];omega
   generalize wri (l[j]'hjl)=WX at *;clear g0 g1 g2 g3 gx hs hs' htk htl hll hpg;go_wp2_with fail;refine C1.out.mono ?_;rintro e w2 ⟨v2,rfl,ho2,hb2⟩;obtain⟨A2,cp2,rfl,hc2,hc3,hr2⟩:=ho2.rd;have HR2:=hid hr2;have HB2:=hid hb2;have HZ2:Hid (w.heap.size+1≤w2.heap.size):=Nat.le_trans hsz hb2.size;clear ho2 hr2 hb2 hb3 hb0 e0 e1 e2 e3;go_wp2_with (first
    | (at_builtin;refine Qam rfl (.tmp 45) (.tmp 51) 29 rfl (w.heap.size+1) 5 Tryz.underlying29 Qak _ _ rfl (hob.out.below HB2.out) _ _ _ _ _ rfl HR2.out HBD.out HZ2.out ?_;intro v3 w3 ho3 hb3;have O3:=hid ho3;have B3:=hid hb3;clear ho3 hb3)
    | fail)
   go_roundw
   case rel=>exact⟨j+1,by omega,by go_num,by show Ob _ _ _ _ _;rw[HTK.out,← List.append_assoc];exact O3.out,(hbel.out.trans (HB2.out.mono hsz)).trans B3.out⟩
   case measure=>simp[intOf];omega
  ·
   obtain rfl:j=N:=by omega
   have hfin:=hob.out;rw[List.take_of_length_le (by rw[HL.out];exact Nat.le_refl _)] at hfin
   have HF:=hid hfin;have HS:=hid (((Below.refl w.heap.size w).alloc zr _).trans (hbel.out.mono (by omega)));clear hfin;go_wp2_with (first
    | (at_builtin;refine Qam rfl (.tmp 56) (.tmp 57) 29 rfl (w.heap.size+1) 5 Tryz.underlying29 Qak _ _ rfl (HF.out.alloc _) _ _ 1 1 [0xff] rfl (Rd.lit wr _ rfl [0xff] _ _ rfl 1 rfl) HFIN.out (Nat.le_trans hsz (Qaa _ _)) ?_;intro v3 w3 ho3 hb3;have O3:=hid ho3;have B3:=hid hb3;clear ho3 hb3)
    | fail)
   go_ret;exact⟨_,rfl,O3.out.weak (Nat.le_succ _),(HS.out.alloc (by omega) _).trans (B3.out.mono (Nat.le_succ _))⟩
theorem Qn3(n:Nat)(nd cd cl N:Nat)(A AL:OA)(w:World)(hn:n<18446744073709551616) :
  Calls Tryz.prog 104 #[.agg #[.int .i64 0,.int .u64 (n:Int),.slice A nd cd,.slice AL N cl]] w (Qbi 5 (hd 0 n) w):=by
 have C1:=hid (fun W=>Qej 0 n W (by decide) hn);have HH:Qdh 0 n=hd 0 n:=by rw[Qdh,if_neg (by decide)];rfl
 rw[HH] at C1
 generalize hd 0 n=H at *;clear HH;go_enter Tryz.func104,Tryz.ntmps104;go_wp2_with fail;refine(C1.out _).mono ?_;rintro e w1 ⟨v,rfl,ho,hb⟩;have HO:=hid ho;have HB:=hid hb;clear ho hb;go_wp2_with fail;go_ret;exact⟨_,rfl,HO.out.weak (Qaa _ _),zb.trans (HB.out.mono (Qaa _ _))⟩
theorem Qkr:∀ m:Nat,Qpj m
 | 0=>fun _ _ _ _ h _ _ _ _=>absurd h (Nat.not_lt_zero _)
 | m+1=>by
  intro x v w B hm hr hlen hB h;obtain⟨k,n,d,l⟩:=x;obtain⟨A,nd,cd,AL,cl,rfl,h1,h2,h3,h4,h5,h7⟩:=h.open;rw[Qbd,Bool.and_eq_true] at hr
  rw[par] at hm
  rcases Qk0 hr.1 with ⟨rfl,rfl,rfl⟩|⟨rfl,rfl,rfl⟩|⟨rfl,rfl,rfl,hpl⟩|⟨rfl,rfl,rfl⟩|⟨rfl,rfl,rfl⟩
  ·
   have e:wri (.mk 0 n [] [])=hd 0 n:=by rw[wri,if_pos rfl]
   rw[e]
   exact Qn3 n nd cd cl _ A AL w h2
  ·
   exact Qh3 2 (.inl rfl) nd cd cl B A AL d w hB h4 h3.1 hlen
  ·
   exact Qh3 3 (.inr rfl) nd cd cl B A AL d w hB h4 h3.1 hlen
  ·
   have e:wri (.mk 4 0 [] l)=hd 4 l.length++wrs l:=by rw[wri,if_neg (by decide),if_neg (by decide),if_pos rfl]
   rw[e] at hlen ⊢
   exact Qn5 m l.length nd cd cl B A AL l w hm hB hlen hr.2 h5 (Qkr m) h7 rfl
  ·
   have e:wri (.mk 5 0 [] l)=0x9f::(wrs l++[0xff]):=by rw[wri,if_neg (by decide),if_neg (by decide),if_neg (by decide)]
   rw[e] at hlen ⊢
   exact Qn4 m l.length nd cd cl B A AL l w hm hB hlen hr.2 h5 (Qkr m) h7 rfl
theorem Rd.sub{w w':World}{B B' n:Nat}{A:OA}{l:LB}(h:Rd w B A n l)(hB:B≤B')(hk:∀ (p:Addr) (u:Value),p.block<B→w.cell? p=some u→w'.cell? p=some u):Rd w' B' A n l :=
 ⟨h.1,fun hn=>by
  obtain⟨b,o,e,hb,hc⟩:=h.2 hn;exact⟨b,o,e,by omega,fun i hi=>hk ⟨b,o+i,none⟩ _ hb (hc i hi)⟩⟩
mutual
theorem RdI.sub{w w':World}{B B':Nat}(hB:B≤B')(hk:∀ (p:Addr) (u:Value),p.block<B→w.cell? p=some u→w'.cell? p=some u):∀ {x:Itm} {v:Value},RdI w B v x→RdI w' B' v x
 | .mk k n d l,v,h=>by
  rw[RdI] at h ⊢
  obtain⟨A,nd,cd,AL,nl,cl,e,h1,h2,h3,h4,h5,h6,h7⟩:=h;refine⟨A,nd,cd,AL,nl,cl,e,h1,h2,h3,h4.sub hB hk,h5,h6,fun h0=>?_⟩;obtain⟨b,o,ea,hb,hs⟩:=h7 h0;exact⟨b,o,ea,by omega,RdIs.sub hB hk hb hs⟩
theorem RdIs.sub{w w':World}{B B':Nat}(hB:B≤B')(hk:∀ (p:Addr) (u:Value),p.block<B→w.cell? p=some u→w'.cell? p=some u){b:Nat}(hb:b<B):∀ {l:List Itm} {o:Nat},RdIs w B b o l→RdIs w' B' b o l
 | [],o,_=>by rw[RdIs];trivial
 | x::r,o,h=>by
  rw[RdIs] at h ⊢
  obtain⟨⟨c0,c1,c2,c3,g0,g1,g2,g3,gx⟩,hr⟩:=h;exact⟨⟨c0,c1,c2,c3,hk ⟨b,o,none⟩ _ hb g0,hk ⟨b,o+1,none⟩ _ hb g1,hk ⟨b,o+2,none⟩ _ hb g2,hk ⟨b,o+3,none⟩ _ hb g3,RdI.sub hB hk gx⟩,RdIs.sub hB hk hb hr⟩
end
def rub(g:Nat)(w:World):World:={ w with heap:=w.heap.modify g fun _=>.cells #[] 0 }
theorem Qxd{g k:Nat}{w:World}(h:k≠g):(rub g w).heap[k]?=w.heap[k]?:=by
 unfold rub;simp only[Array.getElem?_modify];rw[if_neg (fun e=>h e.symm)]
theorem Qxc{g:Nat}{w:World}:(rub g w).heap.size=w.heap.size:=by simp[rub]
theorem rub_cell{g:Nat}{w:World}{p:Addr}(h:p.block≠g):(rub g w).cell? p=w.cell? p:=World.cell?_of_block (w:=w) (Qxd h)
theorem Qpq{g:Nat}{w:World}{p:Addr}{u:Value}(h:(rub g w).cell? p=some u):p.block≠g:=by
 intro e;have hlt:=World.block_lt_of_cell? (rub g w) p h;have hb:(rub g w).heap[g]?=some (.cells #[] 0):=by
  unfold rub;simp only[Array.getElem?_modify];rw[Qxc,e] at hlt
  simp[hlt]
 unfold World.cell? at h;rw[e,hb] at h
 simp at h
theorem Qz3{g:Nat}{w:World}{p:Addr}{u:Value}(h:(rub g w).cell? p=some u):w.cell? p=some u:=by rw[← rub_cell (Qpq h)];exact h
structure Only (g:Nat) (w w':World):Prop where
 os:w'.os=w.os
 tape:w'.tape=w.tape
 output:w'.output=w.output
 size:w.heap.size≤w'.heap.size
 block:∀ k,k<w.heap.size→k≠g→w'.heap[k]?=w.heap[k]?
section
variable {g:Nat}{a b c:World}
theorem Only.refl(g:Nat)(w:World):Only g w w:=⟨rfl,rfl,rfl,Nat.le_refl _,fun _ _ _=>rfl⟩
theorem Only.trans(h:Only g a b)(k:Only g b c):Only g a c :=
 ⟨k.os.trans h.os,k.tape.trans h.tape,k.output.trans h.output,Nat.le_trans h.size k.size,fun i hi hg=>(k.block i (Nat.lt_of_lt_of_le hi h.size) hg).trans (h.block i hi hg)⟩
theorem Only.of_below(h:Below a.heap.size a b):Only g a b:=⟨h.os,h.tape,h.output,h.size,fun k hk _=>h.block k hk⟩
theorem Only.below(h:Only g a b)(hg:g≤a.heap.size):Below g a b:=⟨h.os,h.tape,h.output,h.size,fun k hk=>h.block k (by omega) (by omega)⟩
theorem Only.alloc(h:Only g a b)(o:Obj):Only g a (b.alloc o):=h.trans (Only.of_below ((Below.refl _ _).alloc zr o))
theorem Only.drew(h:Only g a b):Only g a b.drew:=⟨h.os,h.tape,h.output,h.size,h.block⟩
theorem Only.setCell(h:Only g a b){p:Addr}(hp:p.block=g)(u:Value):Only g a (b.setCell p u) :=
 h.trans ⟨rfl,rfl,rfl,by simp[World.setCell],fun k _ hk=>Below.heap_setCell _ _ _ _ (by omega)⟩
theorem Only.cell(h:Only g a b){p:Addr}(hp:p.block<a.heap.size)(hg:p.block≠g):b.cell? p=a.cell? p:=World.cell?_of_block (w:=a) (h.block p.block hp hg)
theorem Only.rub_cell(h:Only g a b){p:Addr}{u:Value}(hp:p.block<a.heap.size)(hc:(rub g a).cell? p=some u):(rub g b).cell? p=some u:=by
 have hg:=Qpq hc;rw[Go.Proofs.YtbnfkjkoinbkgaaGreatDoor.rub_cell hg,h.cell hp hg]
 exact Qz3 hc
theorem RdI.only{v:Value}{x:Itm}(hr:RdI (rub g a) a.heap.size v x)(h:Only g a b):RdI (rub g b) b.heap.size v x:=hr.sub h.size fun _ _ hp hc=>h.rub_cell hp hc
theorem RdIs.only{bl o:Nat}{l:List Itm}(hr:RdIs (rub g a) a.heap.size bl o l)(hb:bl<a.heap.size)(h:Only g a b):RdIs (rub g b) b.heap.size bl o l:=hr.sub h.size (fun _ _ hp hc=>h.rub_cell hp hc) hb
theorem Rd.only{A:OA}{n:Nat}{l:LB}(hr:Rd (rub g a) a.heap.size A n l)(h:Only g a b):Rd (rub g b) b.heap.size A n l:=hr.sub h.size fun _ _ hp hc=>h.rub_cell hp hc
theorem Rd.rub{A:OA}{n B:Nat}{l:LB}(hr:Rd a B A n l)(hB:B≤g):Rd (Go.Proofs.YtbnfkjkoinbkgaaGreatDoor.rub g a) B A n l:=hr.sub zr fun p _ hp hc=>by
 rw[Go.Proofs.YtbnfkjkoinbkgaaGreatDoor.rub_cell (by omega)];exact hc
end
def Qap(S:Nat→Bool)(w:World):World:={ w with heap:=w.heap.mapIdx fun i o=>if S i then .cells #[] 0 else o }
theorem Qul{S:Nat→Bool}{w:World}:(Qap S w).heap.size=w.heap.size:=by simp[Qap]
theorem Qun{S:Nat→Bool}{w:World}{k:Nat}(h:S k=false):(Qap S w).heap[k]?=w.heap[k]?:=by
 unfold Qap;simp only[Array.getElem?_mapIdx,h];cases w.heap[k]? <;> simp
theorem Qaq{S:Nat→Bool}{w:World}{p:Addr}(h:S p.block=false):(Qap S w).cell? p=w.cell? p:=World.cell?_of_block (w:=w) (Qun h)
theorem Qb6{S:Nat→Bool}{w:World}{p:Addr}{u:Value}(h:(Qap S w).cell? p=some u):S p.block=false:=by
 rcases hs:S p.block with _|_
 ·
  rfl
 ·
  exfalso
  have hlt:=World.block_lt_of_cell? (Qap S w) p h;rw[Qul] at hlt
  have hb:(Qap S w).heap[p.block]?=some (.cells #[] 0):=by
   unfold Qap;simp only[Array.getElem?_mapIdx];simp[hlt,hs]
  unfold World.cell? at h;rw[hb] at h
  simp at h
theorem Qaj{S:Nat→Bool}{w:World}{p:Addr}{u:Value}(h:(Qap S w).cell? p=some u):w.cell? p=some u:=by rw[← Qaq (Qb6 h)];exact h
theorem mask_go{S S':Nat→Bool}{w w':World}{p:Addr}{u:Value}(h:(Qap S w).cell? p=some u)(hk:∀ k,k<w.heap.size→S k=false→w'.heap[k]?=w.heap[k]?)(hs:∀ k,k<w.heap.size→S k=false→S' k=false):(Qap S' w').cell? p=some u:=by
 have ho:=Qb6 h;have hc:=Qaj h;have hlt:=World.block_lt_of_cell? w p hc;rw[Qaq (hs _ hlt ho),World.cell?_of_block (w:=w) (hk _ hlt ho)]
 exact hc
theorem RdI.mask_go{S S':Nat→Bool}{w w':World}{B B':Nat}{v:Value}{x:Itm}(h:RdI (Qap S w) B v x)(hB:B≤B')(hk:∀ k,k<w.heap.size→S k=false→w'.heap[k]?=w.heap[k]?)(hs:∀ k,k<w.heap.size→S k=false→S' k=false):RdI (Qap S' w') B' v x :=
 h.sub hB fun _ _ _ hc=>Go.Proofs.YtbnfkjkoinbkgaaGreatDoor.mask_go hc hk hs
theorem Rd.mask_go{S S':Nat→Bool}{w w':World}{B B' n:Nat}{A:OA}{l:LB}(h:Rd (Qap S w) B A n l)(hB:B≤B')(hk:∀ k,k<w.heap.size→S k=false→w'.heap[k]?=w.heap[k]?)(hs:∀ k,k<w.heap.size→S k=false→S' k=false):Rd (Qap S' w') B' A n l :=
 h.sub hB fun _ _ _ hc=>Go.Proofs.YtbnfkjkoinbkgaaGreatDoor.mask_go hc hk hs
theorem RdI.unmask{S:Nat→Bool}{w:World}{B:Nat}{v:Value}{x:Itm}(h:RdI (Qap S w) B v x):RdI w B v x:=h.sub zr fun _ _ _ hc=>Qaj hc
def Qax(lo:Nat)(k:Nat):Bool:=decide (k<lo)
def Qij(lo:Nat)(v:Value)(k:Nat):Bool:=decide (k<lo)||decide (v.ownBlock=some k)
theorem Qaz{lo k:Nat}:Qax lo k=false↔lo≤k:=by unfold Qax;simp
theorem Qbs{lo k:Nat}{v:Value}:Qij lo v k=false↔lo≤k∧v.ownBlock≠some k:=by unfold Qij;simp
def ItC(w:World)(B:Nat):List Value→List Itm→Prop
 | [],[]=>True
 | c0::c1::c2::c3::cs,x::xs=>RdI w B (.agg #[c0,c1,c2,c3]) x∧ItC w B cs xs
 | _,_=>False
theorem ItC.sub{w w':World}{B B':Nat}(hB:B≤B')(hk:∀ (p:Addr) (u:Value),p.block<B→w.cell? p=some u→w'.cell? p=some u):∀ {cs:List Value} {xs:List Itm},ItC w B cs xs→ItC w' B' cs xs
 | [],[],_=>trivial
 | c0::c1::c2::c3::cs,x::xs,h=>⟨h.1.sub hB hk,ItC.sub hB hk h.2⟩
 | [],_::_,h=>h.elim
 | [_],_,h=>by simp[ItC] at h
 | [_,_],_,h=>by simp[ItC] at h
 | [_,_,_],_,h=>by simp[ItC] at h
 | _::_::_::_::_,[],h=>h.elim
theorem ItC.mask_go{S S':Nat→Bool}{w w':World}{B B':Nat}{cs:List Value}{xs:List Itm}(h:ItC (Qap S w) B cs xs)(hB:B≤B')(hk:∀ k,k<w.heap.size→S k=false→w'.heap[k]?=w.heap[k]?)(hs:∀ k,k<w.heap.size→S k=false→S' k=false):ItC (Qap S' w') B' cs xs :=
 h.sub hB fun _ _ _ hc=>Go.Proofs.YtbnfkjkoinbkgaaGreatDoor.mask_go hc hk hs
theorem ItC.snoc{w:World}{B:Nat}{c0 c1 c2 c3:Value}{x:Itm}(hx:RdI w B (.agg #[c0,c1,c2,c3]) x):∀ {cs:List Value} {xs:List Itm},ItC w B cs xs→ItC w B (cs++[c0,c1,c2,c3]) (xs++[x])
 | [],[],_=>⟨hx,trivial⟩
 | c0::c1::c2::c3::cs,x::xs,h=>⟨h.1,ItC.snoc hx h.2⟩
 | [],_::_,h=>h.elim
 | [_],_,h=>by simp[ItC] at h
 | [_,_],_,h=>by simp[ItC] at h
 | [_,_,_],_,h=>by simp[ItC] at h
 | _::_::_::_::_,[],h=>h.elim
theorem ItC.len{w:World}{B:Nat}:∀ {cs:List Value} {xs:List Itm},ItC w B cs xs→cs.length=xs.length*4
 | [],[],_=>rfl
 | c0::c1::c2::c3::cs,x::xs,h=>by have:=ItC.len h.2;simp;omega
 | [],_::_,h=>h.elim
 | [_],_,h=>by simp[ItC] at h
 | [_,_],_,h=>by simp[ItC] at h
 | [_,_,_],_,h=>by simp[ItC] at h
 | _::_::_::_::_,[],h=>h.elim
theorem ItC.lie{w:World}{B b:Nat}:∀ {cs:List Value} {xs:List Itm} {o:Nat},ItC w B cs xs→(∀ j u,cs[j]?=some u→w.cell? ⟨b,o+j,none⟩=some u)→RdIs w B b o xs
 | [],[],_,_,_=>by rw[RdIs];trivial
 | c0::c1::c2::c3::cs,x::xs,o,h,hc=>by
  rw[RdIs]
  refine⟨⟨c0,c1,c2,c3,hc 0 c0 rfl,hc 1 c1 rfl,hc 2 c2 rfl,hc 3 c3 rfl,h.1⟩,ItC.lie h.2 fun j u hj=>?_⟩;rw[show o+4+j=o+(j+4) by omega]
  exact hc (j+4) u (by simpa using hj)
 | [],_::_,_,h,_=>h.elim
 | [_],_,_,h,_=>by simp[ItC] at h
 | [_,_],_,_,h,_=>by simp[ItC] at h
 | [_,_,_],_,_,h,_=>by simp[ItC] at h
 | _::_::_::_::_,[],_,h,_=>h.elim
def Qws:List (List Itm)→Bool | []=>true|l::r=>Qan l&&Qws r
def Qtd:List (List Itm)→Nat | []=>0|l::r=>Qa5 l+Qtd r
def lev:Nat→List (List Itm)→Nat|_,[]=>0|i,l::r=>max (i+Qcb l) (lev (i+1) r)
theorem Qcv:∀ (a:List (List Itm)) (t:List Itm),Qws (a++[t])=(Qws a&&Qan t)
 | [],t=>by simp[Qws]
 | l::r,t=>by rw[List.cons_append,Qws,Qws,Qcv r t,Bool.and_assoc]
theorem Qce:∀ (a:List (List Itm)) (t:List Itm),Qtd (a++[t])=Qtd a+Qa5 t
 | [],t=>by simp[Qtd]
 | l::r,t=>by rw[List.cons_append,Qtd,Qtd,Qce r t];omega
theorem Qd2:∀ (a:List (List Itm)) (t:List Itm) (i:Nat),lev i (a++[t])=max (lev i a) (i+a.length+Qcb t)
 | [],t,i=>by simp[lev]
 | l::r,t,i=>by rw[List.cons_append,lev,lev,Qd2 r t,List.length_cons];omega
structure ChkSt (x:Itm) (st:List (List Itm)) (p D:Nat):Prop where
 rt:Qbd x=Qws st
 pr:par x=p+Qtd st
 dp:dep x=max D (lev 0 st)
 ln:st.length≤D+1
 lp:st.length≤p+1
theorem ChkSt.start(x:Itm):ChkSt x [[x]] 0 0:=by
 refine⟨?_,?_,?_,?_,?_⟩
 ·
  simp[Qws,Qan]
 ·
  simp[Qtd,Qa5]
 ·
  simp[lev,Qcb]
 ·
  simp
 ·
  simp
theorem ChkSt.pop{x:Itm}{a:List (List Itm)}{p D:Nat}(h:ChkSt x (a++[[]]) p D):ChkSt x a p D:=by
 have h1:=h.rt;have h2:=h.pr;have h3:=h.dp;have h4:=h.ln;have h5:=h.lp;rw[Qcv,Qan,Bool.and_true] at h1
 rw[Qce,Qa5] at h2
 rw[Qd2,Qcb] at h3
 rw[List.length_append,List.length_singleton] at h4 h5
 exact⟨h1,by omega,by omega,by omega,by omega⟩
theorem ChkSt.bad{x:Itm}{a:List (List Itm)}{p D:Nat}{k:Int}{n:Nat}{d:LB}{l r:List Itm}(h:ChkSt x (a++[.mk k n d l::r]) p D)(ho:own k n d l=false):Qbd x=false:=by
 rw[h.rt,Qcv,Qan,Qbd,ho]
 simp
theorem Qxu{k:Int}{n:Nat}{d:LB}{l:List Itm}(h:own k n d l=true)(hk:¬ (k=4∨k=5)):l=[]:=by
 unfold own at h;rw[if_neg hk] at h
 split at h
 ·
  simp at h;exact h.2
 split at h
 ·
  simp at h;exact h.2
 split at h
 ·
  simp at h;exact h.2.1
 ·
  cases h
theorem ChkSt.flat{x:Itm}{a:List (List Itm)}{p D:Nat}{k:Int}{n:Nat}{d:LB}{l r:List Itm}(h:ChkSt x (a++[.mk k n d l::r]) p D)(ho:own k n d l=true)(hk:¬ (k=4∨k=5)):ChkSt x (a++[r]) (p+1) D:=by
 have hl:=Qxu ho hk;subst hl;have h1:=h.rt;have h2:=h.pr;have h3:=h.dp;have h4:=h.ln;have h5:=h.lp;rw[Qcv,Qan,Qbd,ho,Qan,Bool.and_self,Bool.true_and] at h1
 rw[Qce,Qa5,par,Qa5] at h2
 rw[Qd2,Qcb,dep,if_neg hk,Qcb] at h3
 rw[List.length_append,List.length_singleton] at h4 h5
 refine⟨?_,?_,?_,?_,?_⟩
 ·
  rw[h1,Qcv]
 ·
  rw[Qce];omega
 ·
  rw[Qd2];omega
 ·
  rw[List.length_append,List.length_singleton];omega
 ·
  rw[List.length_append,List.length_singleton];omega
theorem ChkSt.arr{x:Itm}{a:List (List Itm)}{p D:Nat}{k:Int}{n:Nat}{d:LB}{l r:List Itm}(h:ChkSt x (a++[.mk k n d l::r]) p D)(ho:own k n d l=true)(hk:k=4∨k=5):ChkSt x (a++[r]++[l]) (p+1) (max D (a.length+1)):=by
 have h1:=h.rt;have h2:=h.pr;have h3:=h.dp;have h4:=h.ln;have h5:=h.lp;rw[Qcv,Qan,Qbd,ho,Bool.true_and] at h1
 rw[Qce,Qa5,par] at h2
 rw[Qd2,Qcb,dep,if_pos hk] at h3
 rw[List.length_append,List.length_singleton] at h4 h5
 refine⟨?_,?_,?_,?_,?_⟩
 ·
  rw[h1,Qcv,Qcv]
  cases Qws a <;> cases Qan r <;> cases Qan l <;> rfl
 ·
  rw[Qce,Qce];omega
 ·
  rw[Qd2,Qd2,List.length_append,List.length_singleton];omega
 ·
  rw[List.length_append,List.length_append,List.length_singleton,List.length_singleton];omega
 ·
  rw[List.length_append,List.length_append,List.length_singleton,List.length_singleton];omega
theorem ChkSt.left{x:Itm}{a:List (List Itm)}{p D:Nat}{y:Itm}{r:List Itm}(h:ChkSt x (a++[y::r]) p D):p<par x∧D≤dep x∧a.length≤p:=by
 have h2:=h.pr;have h3:=h.dp;have h5:=h.lp;rw[Qce,Qa5] at h2
 rw[List.length_append,List.length_singleton] at h5
 cases y with
 | mk k n d l =>
  rw[par] at h2
  omega
theorem ChkSt.done{x:Itm}{p D:Nat}(h:ChkSt x [] p D):Qbd x=true∧par x=p∧dep x=D:=by
 have h1:=h.rt;have h2:=h.pr;have h3:=h.dp;rw[Qws] at h1
 rw[Qtd] at h2
 rw[lev] at h3
 exact⟨h1,by omega,by omega⟩
def HdSt(n c S:Nat):Prop:=(c=24∧S=1)∨(c=25∧S=2∧256≤n)∨(c=26∧S=4∧65536≤n)∨(c=27∧S=8∧4294967296≤n)
theorem HdSt.end_{n c S:Nat}(h:HdSt n c S)(h24:24≤n)(hd:8≤S∨n<2 ^ (8*S)):c=Qdq n∧S=hsz n:=by
 unfold Qdq hsz;rcases h with ⟨rfl,rfl⟩|⟨rfl,rfl,h1⟩|⟨rfl,rfl,h1⟩|⟨rfl,rfl,h1⟩ <;> simp at hd
 ·
  rw[if_neg (by omega),if_pos (by omega),if_neg (by omega),if_pos (by omega)];exact⟨rfl,rfl⟩
 ·
  rw[if_neg (by omega),if_neg (by omega),if_pos (by omega),if_neg (by omega),if_neg (by omega),if_pos (by omega)];exact⟨rfl,rfl⟩
 ·
  rw[if_neg (by omega),if_neg (by omega),if_neg (by omega),if_pos (by omega),if_neg (by omega),if_neg (by omega),if_neg (by omega),if_pos (by omega)];exact⟨rfl,rfl⟩
 ·
  rw[if_neg (by omega),if_neg (by omega),if_neg (by omega),if_neg (by omega),if_neg (by omega),if_neg (by omega),if_neg (by omega),if_neg (by omega)];exact⟨rfl,rfl⟩
theorem HdSt.next{n c S:Nat}(h:HdSt n c S)(h8:S<8)(hd:2 ^ (8*S)≤n):HdSt n (c+1) (S*2):=by
 unfold HdSt;rcases h with ⟨rfl,rfl⟩|⟨rfl,rfl,h1⟩|⟨rfl,rfl,h1⟩|⟨rfl,rfl,h1⟩ <;> simp at hd <;> omega
theorem HdSt.bd{n c S:Nat}(h:HdSt n c S):24≤c∧c≤27∧1≤S∧S≤8:=by
 unfold HdSt at h;omega
theorem Qok(m:Int)(h0:0≤m)(h7:m≤7)(L:Nat)(hL:L<32):bits BinOp.or IntKind.u8 (m*32) (L:Int)=32*m+(L:Int):=by
 obtain⟨a,rfl⟩:=Int.eq_ofNat_of_zero_le h0;have e:((a:Int)*32)=((2 ^ 5*a:Nat):Int):=by rw[Int.natCast_mul];simp;omega
 rw[e,u8_or_nat _ _ (by omega) (by omega),← Nat.two_pow_add_eq_or_of_lt (i:=5) (by omega)]
 omega
theorem Qen(m:Int)(n:Nat)(w:World)(_hm:(Lit.int .i64 m).wf=true)(hn:n<18446744073709551616) :
  Calls Tryz.prog 145 #[.int .i64 m,.int .u64 (n:Int)] w (Qbi 5 (Qdh m n) w):=by
 by_cases h0:m<0
 ·
  rw[Qdh,if_pos (.inl h0)]
  go_enter Tryz.func145,Tryz.ntmps145;go_wp2_with fail;go_ret;exact⟨_,rfl,Ob.nil_ _ _ _,Below.refl _ _⟩
 by_cases h7:7<m
 ·
  rw[Qdh,if_pos (.inr h7)]
  go_enter Tryz.func145,Tryz.ntmps145;go_wp2_with fail;go_ret;exact⟨_,rfl,Ob.nil_ _ _ _,Below.refl _ _⟩
 rw[Qdh,if_neg (by omega),hd]
 have hm0:0≤m:=by omega
 have hm7:m≤7:=by omega
 clear h0 h7;by_cases h24:n<24
 ·
  have e1:Qdq n=n:=by unfold Qdq;rw[if_pos h24]
  have e2:hsz n=0:=by unfold hsz;rw[if_pos h24]
  rw[e1,e2,show be n 0=[] from rfl]
  have H1:=hid (Qhj m hm0 hm7 n (by omega));have H2:=hid (Qok m hm0 hm7 n (by omega));clear e1 e2;generalize hX:([UInt8.ofNat (32*m.toNat+n)]:LB)=X at *;have HX:Hid (X.length=1):=by rw[← hX];rfl
  clear hX;go_enter Tryz.func145,Tryz.ntmps145;go_wp2_with fail;rw[H2.out]
  go_ret;exact⟨_,rfl,Ob.lit w X _ H1.out zr 1 HX.out (by decide),zb⟩
 ·
  have HS:Hid (24≤n):=(by omega:_≤_)
  obtain⟨R,hR⟩:∃ q,q=hd m.toNat n:=⟨_,rfl⟩
  have e0:UInt8.ofNat (32*m.toNat+Qdq n)::be n (hsz n)=R:=by rw[hR,hd]
  rw[e0]
  have HR:=hid hR;clear hR e0;have hx0:(0:Int)≤(n:Int):=by omega
  go_enter Tryz.func145,Tryz.ntmps145;go_wp2_with fail;go_loopw [6,7] (fun c s wr=>∃ C S:Nat,HdSt n C S∧c=.int .u8 (C:Int)∧s=.int .i64 (S:Int)∧wr=w) (fun _ s _=>8 - (intOf s).toNat)
  case atStart=>exact⟨24,1,.inl ⟨rfl,rfl⟩,rfl,rfl,rfl⟩
  case round =>
   obtain⟨C,S,hst,rfl,rfl,rfl⟩:=hrel;obtain⟨b1,b2,b3,b4⟩:=hst.bd;have HST:=hid hst;clear hst;by_cases h8:S<8
   ·
    have h8i:decide ((S:Int)<8)=true:=by simp;omega
    by_cases hdd:n<2 ^ (8*S)
    ·
     have hq:(n:Int) / 2 ^ (8*S)=0:=by
      have:n / 2 ^ (8*S)=0:=Nat.div_eq_of_lt hdd
      exact_mod_cast this
     obtain⟨E1,E2⟩:=HST.out.end_ HS.out (.inr hdd);have eR:[UInt8.ofNat (32*m.toNat+C)]++be n S=R:=by rw[HR.out,hd,E1,E2];rfl
     have HE:=hid eR;have H1:=hid (Qhj m hm0 hm7 C (by omega));have H2:=hid (Qok m hm0 hm7 C (by omega));have c2:=fun W=>Qof (n:Int) (S:Int) W hx0 (by omega)
     rw[show psz (S:Int)=S by unfold psz;omega,Int.toNat_natCast] at c2
     have C2:=hid c2;have HL:=hid (Qa9 n S);clear E1 E2 eR c2;go_wp2_with fail;rw[H2.out]
     refine(C2.out _).mono ?_;rintro e w1 ⟨rfl,hr,hb⟩;have hr2:=hr.rd HL.out hr.lt;rw[show(wr.alloc (.cells #[Value.int IntKind.u8 (32*m+(C:Int))] 5)).heap.size=wr.heap.size+1 by simp] at hr2
     have HR2:=hid hr2;have HB:=hid hb;clear hr hr2 hb;generalize be n S=L at *;have HX:Hid (([UInt8.ofNat (32*m.toNat+C)]:LB).length=1):=rfl;generalize ([UInt8.ofNat (32*m.toNat+C)]:LB)=X at *;go_wp2_with (first
      | (at_builtin;go_loud (refine Qam rfl (.tmp 40) (.tmp 43) 29 rfl wr.heap.size 5 Tryz.underlying29 Qak _ _ rfl ((Ob.lit wr X _ H1.out zr 1 HX.out (by decide)).below HB.out) _ _ _ _ _ rfl HR2.out (by rw[HX.out];omega) (Nat.le_trans (Qaa _ _) HB.out.size) ?_;intro v1 w2 ho1 hb1;have O1:=hid ho1;have B1:=hid hb1;clear ho1 hb1))
      | fail)
     go_ret;exact⟨_,rfl,by rw[← HE.out];exact O1.out,(zb.trans (HB.out.mono (Qaa _ _))).trans B1.out⟩
    ·
     have hq:¬ (n:Int) / 2 ^ (8*S)=0:=by
      have:0<n / 2 ^ (8*S):=Nat.div_pos (by omega) (Nat.pow_pos (by decide))
      intro h;have h2:n / 2 ^ (8*S)=0:=by exact_mod_cast h
      omega
     go_wp2_with fail;go_roundw
     case rel=>exact⟨C+1,S*2,HST.out.next h8 (by omega),by go_num,by go_num,trivial⟩
     case measure=>simp[intOf];omega
   ·
    have h8i:decide ((S:Int)<8)=false:=by simp;omega
    obtain⟨E1,E2⟩:=HST.out.end_ HS.out (.inl (by omega));have eR:[UInt8.ofNat (32*m.toNat+C)]++be n S=R:=by rw[HR.out,hd,E1,E2];rfl
    have HE:=hid eR;have H1:=hid (Qhj m hm0 hm7 C (by omega));have H2:=hid (Qok m hm0 hm7 C (by omega));have c2:=fun W=>Qof (n:Int) (S:Int) W hx0 (by omega)
    rw[show psz (S:Int)=S by unfold psz;omega,Int.toNat_natCast] at c2
    have C2:=hid c2;have HL:=hid (Qa9 n S);clear E1 E2 eR c2;go_wp2_with fail;rw[H2.out]
    refine(C2.out _).mono ?_;rintro e w1 ⟨rfl,hr,hb⟩;have hr2:=hr.rd HL.out hr.lt;rw[show(wr.alloc (.cells #[Value.int IntKind.u8 (32*m+(C:Int))] 5)).heap.size=wr.heap.size+1 by simp] at hr2
    have HR2:=hid hr2;have HB:=hid hb;clear hr hr2 hb;generalize be n S=L at *;have HX:Hid (([UInt8.ofNat (32*m.toNat+C)]:LB).length=1):=rfl;generalize ([UInt8.ofNat (32*m.toNat+C)]:LB)=X at *;go_wp2_with (first
     | (at_builtin;go_loud (refine Qam rfl (.tmp 40) (.tmp 43) 29 rfl wr.heap.size 5 Tryz.underlying29 Qak _ _ rfl ((Ob.lit wr X _ H1.out zr 1 HX.out (by decide)).below HB.out) _ _ _ _ _ rfl HR2.out (by rw[HX.out];omega) (Nat.le_trans (Qaa _ _) HB.out.size) ?_;intro v1 w2 ho1 hb1;have O1:=hid ho1;have B1:=hid hb1;clear ho1 hb1))
     | fail)
    go_ret;exact⟨_,rfl,by rw[← HE.out];exact O1.out,(zb.trans (HB.out.mono (Qaa _ _))).trans B1.out⟩
end Go.Proofs.YtbnfkjkoinbkgaaGreatDoor
