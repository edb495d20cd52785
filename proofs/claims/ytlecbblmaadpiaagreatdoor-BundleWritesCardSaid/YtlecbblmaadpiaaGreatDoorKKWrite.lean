import Derived.Test.YtlecbblmaadpiaaGreatDoorKCborU
namespace Go.Proofs.YtlecbblmaadpiaaGreatDoor
set_option maxRecDepth 100000
set_option maxHeartbeats 16000000
open Go.RowKit
open Go.Lib (hid)
structure Run (v:Value) (w:World) (v':Value) (w':World):Prop where
 grown:w.grownBy w' v.ownBlock
 own:v'.ownBlock=v.ownBlock∨∃ k,v'.ownBlock=some k∧w.heap.size≤k
section
variable {v v1 v2:Value} {w w1 w2:World} {base:Nat} {t:TypeId} {l:List UInt8}
theorem Run.refl (v:Value) (w:World):Run v w v w:=⟨World.grownBy.refl w _,.inl rfl⟩
theorem Run.trans (h:Run v w v1 w1) (k:Run v1 w1 v2 w2):Run v w v2 w2:=by
 refine ⟨⟨k.grown.os.trans h.grown.os,k.grown.tape.trans h.grown.tape,k.grown.output.trans h.grown.output,Nat.le_trans h.grown.size k.grown.size,fun i hi hne=>?_⟩,?_⟩
 ·
  refine (k.grown.block i (Nat.lt_of_lt_of_le hi h.grown.size) (fun e=>?_)).trans (h.grown.block i hi hne)
  rcases h.own with ho|⟨q,ho,hq⟩
  ·
   exact hne (e.trans ho)
  ·
   rw [ho] at e;injection e with e;omega
 ·
  rcases k.own with ko|⟨q,ko,hq⟩
  ·
   rcases h.own with ho|⟨q,ho,hq⟩
   ·
    exact .inl (ko.trans ho)
   ·
    exact .inr ⟨q,ko.trans ho,hq⟩
  ·
   exact .inr ⟨q,ko,Nat.le_trans h.grown.size hq⟩
theorem Run.quiet (h:Run v w v1 w1) (hb:Below w1.heap.size w1 w2):Run v w v1 w2 :=
 h.trans ⟨⟨hb.os,hb.tape,hb.output,hb.size,fun k hk _=>hb.block k hk⟩,.inl rfl⟩
theorem Run.alloc (h:Run v w v1 w1) (o:Obj):Run v w v1 (w1.alloc o):=h.quiet ((Below.refl _ _).alloc nlr o)
theorem Run.drew (h:Run v w v1 w1):Run v w v1 w1.drew:=h.quiet ((Below.refl _ _).drew)
theorem Run.below (h:Run v w v1 w1) (ho:Ob w base t v l) (hbase:base≤w.heap.size):Below base w w1 :=
 ⟨h.grown.os,h.grown.tape,h.grown.output,h.grown.size,fun k hk=>h.grown.block k (by omega) (fun e=>by have:=(World.ownsRow.lt ho k e.symm).1;omega)⟩
theorem Run.cell (h:Run v w v1 w1) {p:Addr} (hp:p.block<w.heap.size) (hne:v.ownBlock≠some p.block):w1.cell? p=w.cell? p :=
 World.cell?_of_block (w:=w) (h.grown.block p.block hp (fun e=>hne e.symm))
theorem Run.ne (h:Run v w v1 w1) {k:Nat} (hk:k<w.heap.size) (hne:v.ownBlock≠some k):v1.ownBlock≠some k:=fun e=>by
 rcases h.own with ho|⟨q,ho,hq⟩
 ·
  exact hne (ho.symm.trans e)
 ·
  rw [ho] at e;injection e with e;omega
end
def GivesW (t:TypeId) (base:Nat) (vb:Value) (l:List UInt8) (w:World) (e:Ending) (w':World):Prop:=∃ v,e=.returned v∧Ob w' base t v l∧Run vb w v w'
def CWriteIH (m:Nat):Prop:=∀ (x:Itm) (v vb:Value) (lb:List UInt8) (w:World) (base:Nat),par x<m→right x=true→lb.length+(wri x).length≤140737488355328→base≤w.heap.size→RdI w base v x→Ob w base 5 vb lb →
  Calls Tryz.prog 134 #[vb,v] w (GivesW 5 base vb (lb++wri x) w)
section
variable {P:Program} {w:World}
theorem wpList_appR {ops:Array Oper} {rest:List Oper} {o:Oper} {a:Act} {Q:Exit→Act→World→Prop} (hgd:o.guard=none) (s x:Operand) (t:TypeId)
  (ho:o.op=.call { callee:=.builtin .append,args:=#[s,x],argTypes:=#[t,t] })
  (base:Nat) (e:TypeId) (ht:P.underlying t=some (.slice e)) (hinfo:(P.info? e).map (fun i=>(i.zero,i.size,i.bytes))=some (some (.int .u8 0),1,1))
  (v:Value) (l:List UInt8) (hs:a.eval s=v) (hown:Ob w base e v l) (B:Nat) (A:Option Addr) (m c:Nat) (news:List UInt8) (hx:a.eval x=.slice A m c) (hr:Rd w B A m news)
  (hbound:l.length+m≤140737488355328) (hbase:base≤w.heap.size)
  (h:∀ v' w',Ob w' base e v' (l++news)→Run v w v' w'→wpList P ops Q rest (a.put o.dst v') w'):wpList P ops Q (o::rest) a w :=
 wpList_app hgd s x t ho base e ht hinfo v l hs hown B A m c news hx hr hbound hbase fun v' w' h1 h2 h3 =>
  h v' w' h1 ⟨h2,h3.imp id fun e=>⟨_,e,Nat.le_refl _⟩⟩
theorem step_appR {ops:Array Oper} {o:Oper} {a:Act} {K:Act→World→Prop} {Q:Exit→Act→World→Prop} {E:Prop} (hgd:o.guard=none) (s x:Operand) (t:TypeId)
  (ho:o.op=.call { callee:=.builtin .append,args:=#[s,x],argTypes:=#[t,t] })
  (base:Nat) (e:TypeId) (ht:P.underlying t=some (.slice e)) (hinfo:(P.info? e).map (fun i=>(i.zero,i.size,i.bytes))=some (some (.int .u8 0),1,1))
  (v:Value) (l:List UInt8) (hs:a.eval s=v) (hown:Ob w base e v l) (B:Nat) (A:Option Addr) (m c:Nat) (news:List UInt8) (hx:a.eval x=.slice A m c) (hr:Rd w B A m news)
  (hbound:l.length+m≤140737488355328) (hbase:base≤w.heap.size)
  (h:∀ v' w',Ob w' base e v' (l++news)→Run v w v' w'→K (a.put o.dst v') w'):if Region.wanted o (yielded ops a.tmps)=true then Oper.wp P o a w K Q else E:=by
 have hw:Region.wanted o (yielded ops a.tmps)=true:=by simp [Region.wanted,hgd]
 rw [if_pos hw]
 obtain ⟨v',w',hrun,h2,h3,h4⟩:=run_app (P:=P) w base t o.type e ht hinfo v l hown B A m c news hr hbound hbase
 unfold Oper.wp execOp
 simp only [ho,resolve,invoke,builtin,Sem.run_bind,Sem.run_pure,Result.andThen_ok,List.map_toArray,List.map_cons,List.map_nil,hs,hx,hrun]
 exact h v' w' h2 ⟨h3,h4.imp id fun e=>⟨_,e,Nat.le_refl _⟩⟩
end
theorem cwriteAll (m N cl base:Nat) (AL:Option Addr) (l:List Itm) (vb:Value) (lb:List UInt8) (w:World) (hm:pars l<m) (hbase:base≤w.heap.size) (hlen:lb.length+(wrs l).length≤140737488355328) (hrt:rights l=true) (h5:N≤cl∧N≤140737488355328)
  (IH:Hid (CWriteIH m)) (H7:Hid (0<N→∃ b o,AL=some ⟨b,o,none⟩∧b<base∧RdIs w base b o l)) (HL:Hid (l.length=N)) (ho:Ob w base 5 vb lb) :
  Calls Tryz.prog 172 #[vb,.slice AL N cl] w (GivesW 5 base vb (lb++wrs l) w):=by
 have HO:=hid ho
 have HRT:=hid hrt
 have HLEN:=hid hlen
 clear ho hrt hlen
 go_enter Tryz.func172,Tryz.ntmps172
 go_wp2_with fail
 go_loopw [0,9] (fun bv i wr=>∃ j:Nat,j≤N∧i=.int .i64 j∧Hid (Ob wr base 5 bv (lb++wrs (l.take j)))∧Hid (Run vb w bv wr)) (fun _ i _=>N - (intOf i).toNat)
 case atStart=>exact ⟨0,Nat.zero_le _,rfl,by show Ob _ _ _ _ _;rw [List.take_zero,wrs,List.append_nil];exact HO.out,Run.refl _ _⟩
 case round =>
  obtain ⟨j,hj,rfl,hob,hrun⟩:=hrel
  have hbel:=hid (hrun.out.below HO.out hbase)
  by_cases hlt:j<N
  ·
   obtain ⟨b,o,rfl,hb,hs⟩:=H7.out (by omega)
   have hjl:j<l.length:=by rw [HL.out];exact hlt
   obtain ⟨c0,c1,c2,c3,g0,g1,g2,g3,gx⟩:=hs.get j hjl
   have e0:wr.cell? ⟨b,o+j*4,none⟩=some c0:=(hbel.out.cell (p:=⟨b,o+j*4,none⟩) hb).trans g0
   have e1:wr.cell? ⟨b,o+j*4+1,none⟩=some c1:=(hbel.out.cell (p:=⟨b,o+j*4+1,none⟩) hb).trans g1
   have e2:wr.cell? ⟨b,o+j*4+2,none⟩=some c2:=(hbel.out.cell (p:=⟨b,o+j*4+2,none⟩) hb).trans g2
   have e3:wr.cell? ⟨b,o+j*4+3,none⟩=some c3:=(hbel.out.cell (p:=⟨b,o+j*4+3,none⟩) hb).trans g3
   have hz:base≤wr.heap.size:=Nat.le_trans hbase hbel.out.size
   have htk:=wrs_take l j hjl
   have htl:=wrs_take_len l (j+1)
   have hpg:par (l[j]'hjl)≤pars l:=par_get _
   rw [htk,List.length_append] at htl
   have hll:=HLEN.out
   obtain ⟨k1,n1,A1,nd1,cd1,AL1,nl1,cl1,hf⟩:=gx.form
   injection hf with hf
   simp only [Array.mk.injEq,List.cons.injEq,and_true] at hf
   obtain ⟨rfl,rfl,rfl,rfl⟩:=hf
   have C1:=hid (IH.out (l[j]'hjl) _ _ (lb++wrs (l.take j)) (wr.alloc (.cells #[.int .i64 k1,.int .u64 (n1:Int),.slice A1 nd1 cd1,.slice AL1 nl1 cl1] 30)) base (by omega) (right_get HRT.out hjl) (by rw [List.length_append];omega) (Nat.le_trans hz (le_alloc _ _)) ((gx.below hbel.out).alloc hz _) (hob.out.alloc _))
   have HTK:=hid htk
   generalize wri (l[j]'hjl)=WX at *
   clear g0 g1 g2 g3 gx hs htk htl hll hpg
   go_wp2_with fail
   refine C1.out.mono ?_
   rintro e w2 ⟨v2,rfl,ho2,hb2⟩
   have HO2:=hid ho2
   have HB2:=hid ((hrun.out.alloc _).trans hb2)
   clear ho2 hb2 e0 e1 e2 e3
   go_wp2_with fail
   go_roundw
   case rel=>exact ⟨j+1,by omega,by go_num,by show Ob _ _ _ _ _;rw [HTK.out,← List.append_assoc];exact HO2.out,HB2.out⟩
   case measure=>simp [intOf];omega
  ·
   obtain rfl:j=N:=by omega
   have hfin:=hob.out
   rw [List.take_of_length_le (by rw [HL.out];exact Nat.le_refl _)] at hfin
   have HF:=hid hfin
   clear hfin
   go_wp2_with fail
   go_ret
   exact ⟨_,rfl,HF.out,hrun.out⟩
theorem Ob.apart {w:World} {base:Nat} {t:TypeId} {v:Value} {l:List UInt8} (h:Ob w base t v l):v.ownBlock≠some w.heap.size:=fun e=>by
 have:=(World.ownsRow.lt h _ e).2
 omega
theorem headK (k:Int) (n:Nat) (h0:0≤k) (h7:k≤7):headB k n=hd k.toNat n:=by rw [headB,if_neg (by omega)]
theorem cwrite_uint (n nd cd N cl base:Nat) (A AL:Option Addr) (vb:Value) (lb:List UInt8) (w:World) (hn:n<18446744073709551616) (hbase:base≤w.heap.size) (hlen:lb.length+(hd 0 n).length≤140737488355328) (ho:Ob w base 5 vb lb) :
  Calls Tryz.prog 134 #[vb,.agg #[.int .i64 0,.int .u64 (n:Int),.slice A nd cd,.slice AL N cl]] w (GivesW 5 base vb (lb++hd 0 n) w):=by
 have C1:=hid (fun W=>khead_any 0 n W (by decide) hn)
 rw [headK 0 n (by decide) (by decide),show (0:Int).toNat=0 from rfl] at C1
 have HO:=hid (ho.alloc (.cells #[.int .i64 0,.int .u64 (n:Int),.slice A nd cd,.slice AL N cl] 30))
 generalize hd 0 n=H at *
 have HLEN:=hid hlen
 have HBS:=hid hbase
 clear ho hlen hbase
 go_enter Tryz.func134,Tryz.ntmps134
 go_wp2_with fail
 refine (C1.out _).mono ?_
 rintro e w1 ⟨v,rfl,ho1,hb1⟩
 obtain ⟨A2,c2,rfl,hc2,hm2,hr2⟩:=ho1.rd
 have HR:=hid hr2
 have HB:=hid hb1
 have hz1:w.heap.size+1≤w1.heap.size:=by have:=hb1.size;simpa using this
 have HZ:=hid (Nat.le_trans HBS.out (Nat.le_of_succ_le hz1))
 clear ho1 hr2 hb1
 go_wp2_with (first
  | (at_builtin;refine wpList_appR rfl (.tmp 9) (.tmp 14) 27 rfl base 5 Tryz.underlying27 info_u8 vb lb rfl (HO.out.below HB.out) _ _ _ _ H rfl HR.out HLEN.out HZ.out ?_;intro v3 w3 ho3 hb3;have O3:=hid ho3;have B3:=hid hb3;clear ho3 hb3)
  | fail)
 go_ret
 exact ⟨_,rfl,O3.out,(((Run.refl vb w).alloc _).quiet HB.out).trans B3.out⟩
theorem cwrite_text2 (nd cd N cl base:Nat) (A AL:Option Addr) (d:List UInt8) (vb:Value) (lb:List UInt8) (w:World) (hnd:nd≤140737488355328) (hrd:Rd w base A nd d) (hbase:base≤w.heap.size) (hlen:lb.length+(hd 2 d.length++d).length≤140737488355328) (ho:Ob w base 5 vb lb) :
  Calls Tryz.prog 134 #[vb,.agg #[.int .i64 2,.int .u64 0,.slice A nd cd,.slice AL N cl]] w (GivesW 5 base vb (lb++(hd 2 d.length++d)) w):=by
 rw [hrd.1] at hlen ⊢
 have C1:=hid (fun W=>khead_any 2 nd W (by decide) (by omega))
 rw [headK 2 nd (by decide) (by decide),show (2:Int).toNat=2 from rfl] at C1
 have HO:=hid (ho.alloc (.cells #[.int .i64 2,.int .u64 0,.slice A nd cd,.slice AL N cl] 30))
 have HAP:=hid ho.apart
 have HRD:=hid (hrd.alloc hbase (.cells #[.int .i64 2,.int .u64 0,.slice A nd cd,.slice AL N cl] 30))
 have hdl:=hrd.1
 rw [List.length_append,hdl] at hlen
 generalize hd 2 nd=H at *
 have HLEN:=hid hlen
 have HBS:=hid hbase
 clear ho hlen hbase hrd hdl
 go_enter Tryz.func134,Tryz.ntmps134
 go_wp2_with fail
 refine (C1.out _).mono ?_
 rintro e w1 ⟨v,rfl,ho1,hb1⟩
 obtain ⟨A2,c2,rfl,hc2,hm2,hr2⟩:=ho1.rd
 have HR:=hid hr2
 have HB:=hid hb1
 have hz1:w.heap.size+1≤w1.heap.size:=by have:=hb1.size;simpa using this
 have HZ:=hid (Nat.le_trans HBS.out (Nat.le_of_succ_le hz1))
 have HZ1:=hid hz1
 have q2:w1.cell? ⟨w.heap.size,2,none⟩=some (.slice A nd cd):=(hb1.cell (p:=⟨w.heap.size,2,none⟩) (by simp)).trans (by simp)
 clear ho1 hr2 hb1 hz1
 go_wp2_with (first
  | (at_builtin;refine wpList_appR rfl (.tmp 19) (.tmp 26) 27 rfl base 5 Tryz.underlying27 info_u8 vb lb rfl (HO.out.below HB.out) _ _ _ _ H rfl HR.out (by have:=HLEN.out;omega) HZ.out ?_;intro v3 w3 ho3 hb3;have O3:=hid ho3;have B3:=hid hb3;have q3:=(hb3.cell (p:=⟨w.heap.size,2,none⟩) HZ1.out HAP.out).trans q2;clear ho3 hb3 q2)
  | (at_builtin;refine wpList_appR rfl (.tmp 28) (.tmp 30) 27 rfl base 5 Tryz.underlying27 info_u8 v3 (lb++H) rfl O3.out base A nd cd d rfl ((HRD.out.below (HB.out.mono (Nat.le_trans HBS.out (le_alloc _ _)))).below (B3.out.below (HO.out.below HB.out) HZ.out)) (by have:=HLEN.out;rw [List.length_append];omega) (Nat.le_trans HZ.out B3.out.grown.size) ?_;intro v4 w4 ho4 hb4;have O4:=hid ho4;have B4:=hid hb4;clear ho4 hb4)
  | fail)
 go_ret
 exact ⟨_,rfl,by rw [← List.append_assoc];exact O4.out,((((Run.refl vb w).alloc _).quiet HB.out).trans B3.out).trans B4.out⟩
theorem cwrite_text3 (nd cd N cl base:Nat) (A AL:Option Addr) (d:List UInt8) (vb:Value) (lb:List UInt8) (w:World) (hnd:nd≤140737488355328) (hrd:Rd w base A nd d) (hbase:base≤w.heap.size) (hlen:lb.length+(hd 3 d.length++d).length≤140737488355328) (ho:Ob w base 5 vb lb) :
  Calls Tryz.prog 134 #[vb,.agg #[.int .i64 3,.int .u64 0,.slice A nd cd,.slice AL N cl]] w (GivesW 5 base vb (lb++(hd 3 d.length++d)) w):=by
 rw [hrd.1] at hlen ⊢
 have C1:=hid (fun W=>khead_any 3 nd W (by decide) (by omega))
 rw [headK 3 nd (by decide) (by decide),show (3:Int).toNat=3 from rfl] at C1
 have HO:=hid (ho.alloc (.cells #[.int .i64 3,.int .u64 0,.slice A nd cd,.slice AL N cl] 30))
 have HAP:=hid ho.apart
 have HRD:=hid (hrd.alloc hbase (.cells #[.int .i64 3,.int .u64 0,.slice A nd cd,.slice AL N cl] 30))
 have hdl:=hrd.1
 rw [List.length_append,hdl] at hlen
 generalize hd 3 nd=H at *
 have HLEN:=hid hlen
 have HBS:=hid hbase
 clear ho hlen hbase hrd hdl
 go_enter Tryz.func134,Tryz.ntmps134
 go_wp2_with fail
 refine (C1.out _).mono ?_
 rintro e w1 ⟨v,rfl,ho1,hb1⟩
 obtain ⟨A2,c2,rfl,hc2,hm2,hr2⟩:=ho1.rd
 have HR:=hid hr2
 have HB:=hid hb1
 have hz1:w.heap.size+1≤w1.heap.size:=by have:=hb1.size;simpa using this
 have HZ:=hid (Nat.le_trans HBS.out (Nat.le_of_succ_le hz1))
 have HZ1:=hid hz1
 have q2:w1.cell? ⟨w.heap.size,2,none⟩=some (.slice A nd cd):=(hb1.cell (p:=⟨w.heap.size,2,none⟩) (by simp)).trans (by simp)
 clear ho1 hr2 hb1 hz1
 go_wp2_with (first
  | (at_builtin;refine wpList_appR rfl (.tmp 19) (.tmp 26) 27 rfl base 5 Tryz.underlying27 info_u8 vb lb rfl (HO.out.below HB.out) _ _ _ _ H rfl HR.out (by have:=HLEN.out;omega) HZ.out ?_;intro v3 w3 ho3 hb3;have O3:=hid ho3;have B3:=hid hb3;have q3:=(hb3.cell (p:=⟨w.heap.size,2,none⟩) HZ1.out HAP.out).trans q2;clear ho3 hb3 q2)
  | (at_builtin;refine wpList_appR rfl (.tmp 28) (.tmp 30) 27 rfl base 5 Tryz.underlying27 info_u8 v3 (lb++H) rfl O3.out base A nd cd d rfl ((HRD.out.below (HB.out.mono (Nat.le_trans HBS.out (le_alloc _ _)))).below (B3.out.below (HO.out.below HB.out) HZ.out)) (by have:=HLEN.out;rw [List.length_append];omega) (Nat.le_trans HZ.out B3.out.grown.size) ?_;intro v4 w4 ho4 hb4;have O4:=hid ho4;have B4:=hid hb4;clear ho4 hb4)
  | fail)
 go_ret
 exact ⟨_,rfl,by rw [← List.append_assoc];exact O4.out,((((Run.refl vb w).alloc _).quiet HB.out).trans B3.out).trans B4.out⟩
theorem cwrite_arr4 (m nd cd N cl base:Nat) (A AL:Option Addr) (l:List Itm) (vb:Value) (lb:List UInt8) (w:World) (hm:pars l<m) (hbase:base≤w.heap.size) (hlen:lb.length+(hd 4 N++wrs l).length≤140737488355328) (hrt:rights l=true) (h5:N≤cl∧N≤140737488355328)
  (IH:Hid (CWriteIH m)) (H7:0<N→∃ b o,AL=some ⟨b,o,none⟩∧b<base∧RdIs w base b o l) (HL:Hid (l.length=N)) (ho:Ob w base 5 vb lb) :
  Calls Tryz.prog 134 #[vb,.agg #[.int .i64 4,.int .u64 0,.slice A nd cd,.slice AL N cl]] w (GivesW 5 base vb (lb++(hd 4 N++wrs l)) w):=by
 have C1:=hid (fun W=>khead_any 4 N W (by decide) (by omega))
 rw [headK 4 N (by decide) (by decide),show (4:Int).toNat=4 from rfl] at C1
 have HO:=hid (ho.alloc (.cells #[.int .i64 4,.int .u64 0,.slice A nd cd,.slice AL N cl] 30))
 have HAP:=hid ho.apart
 rw [List.length_append] at hlen
 generalize hd 4 N=H at *
 have HO0:=hid ho
 have C2:=hid (fun (W:World) v (hr:Run vb w v W) (ho:Ob W base 5 v (lb++H))=>have hb:=hr.below HO0.out hbase;cwriteAll m N cl base AL l v (lb++H) W hm (Nat.le_trans hbase hb.size) (by rw [List.length_append];omega) hrt h5 IH (fun h0=>by
  obtain ⟨b,o,ea,hb2,hs⟩:=H7 h0
  exact ⟨b,o,ea,hb2,hs.below hb2 hb⟩) HL ho)
 generalize wrs l=L at *
 have HLEN:=hid hlen
 have HBS:=hid hbase
 clear ho hlen hbase H7 hm hrt
 go_enter Tryz.func134,Tryz.ntmps134
 go_wp2_with fail
 refine (C1.out _).mono ?_
 rintro e w1 ⟨v,rfl,ho1,hb1⟩
 obtain ⟨A2,c2,rfl,hc2,hm2,hr2⟩:=ho1.rd
 have HR:=hid hr2
 have HB:=hid hb1
 have hz1:w.heap.size+1≤w1.heap.size:=by have:=hb1.size;simpa using this
 have HZ:=hid (Nat.le_trans HBS.out (Nat.le_of_succ_le hz1))
 have HZ1:=hid hz1
 have q2:w1.cell? ⟨w.heap.size,3,none⟩=some (.slice AL N cl):=(hb1.cell (p:=⟨w.heap.size,3,none⟩) (by simp)).trans (by simp)
 clear ho1 hr2 hb1 hz1
 go_wp2_with (first
  | (at_builtin;refine wpList_appR rfl (.tmp 43) (.tmp 50) 27 rfl base 5 Tryz.underlying27 info_u8 vb lb rfl (HO.out.below HB.out) _ _ _ _ H rfl HR.out (by have:=HLEN.out;omega) HZ.out ?_;intro v3 w3 ho3 hb3;have O3:=hid ho3;have B3:=hid ((((Run.refl vb w).alloc _).quiet HB.out).trans hb3);have q3:=(hb3.cell (p:=⟨w.heap.size,3,none⟩) HZ1.out HAP.out).trans q2;clear ho3 hb3 q2)
  | fail)
 refine (C2.out _ _ B3.out O3.out).mono ?_
 rintro e w4 ⟨v4,rfl,ho4,hb4⟩
 have O4:=hid ho4
 have B4:=hid (B3.out.trans hb4)
 clear ho4 hb4
 go_wp2_with fail
 go_ret
 exact ⟨_,rfl,by rw [← List.append_assoc];exact O4.out,B4.out⟩
theorem cwrite_arr5 (m nd cd N cl base:Nat) (A AL:Option Addr) (l:List Itm) (vb:Value) (lb:List UInt8) (w:World) (hm:pars l<m) (hbase:base≤w.heap.size) (hlen:lb.length+(0x9f::(wrs l++[0xff])).length≤140737488355328) (hrt:rights l=true) (h5:N≤cl∧N≤140737488355328)
  (IH:Hid (CWriteIH m)) (H7:0<N→∃ b o,AL=some ⟨b,o,none⟩∧b<base∧RdIs w base b o l) (HL:Hid (l.length=N)) (ho:Ob w base 5 vb lb) :
  Calls Tryz.prog 134 #[vb,.agg #[.int .i64 5,.int .u64 0,.slice A nd cd,.slice AL N cl]] w (GivesW 5 base vb (lb++(0x9f::(wrs l++[0xff]))) w):=by
 obtain ⟨H,hH⟩:∃ H:List UInt8,H=[0x9f]:=⟨_,rfl⟩
 have eq:lb++(0x9f::(wrs l++[0xff]))=(lb++H++wrs l)++[0xff]:=by rw [hH];simp
 have hH1:H.length=1:=by rw [hH];rfl
 rw [eq]
 simp only [List.length_cons,List.length_append,List.length_nil] at hlen
 have HO:=hid (ho.alloc (.cells #[.int .i64 5,.int .u64 0,.slice A nd cd,.slice AL N cl] 30))
 have HAP:=hid ho.apart
 have HH:=hid hH
 have HO0:=hid ho
 have C2:=hid (fun (W:World) v (hr:Run vb w v W) (ho:Ob W base 5 v (lb++H))=>have hb:=hr.below HO0.out hbase;cwriteAll m N cl base AL l v (lb++H) W hm (Nat.le_trans hbase hb.size) (by rw [List.length_append];omega) hrt h5 IH (fun h0=>by
  obtain ⟨b,o,ea,hb2,hs⟩:=H7 h0
  exact ⟨b,o,ea,hb2,hs.below hb2 hb⟩) HL ho)
 have HL1:=hid hH1
 generalize wrs l=L at *
 have HLEN:=hid hlen
 have HBS:=hid hbase
 clear ho hlen hbase H7 hm hrt hH hH1 eq
 go_enter Tryz.func134,Tryz.ntmps134
 go_wp2_with fail
 have f3:(w.alloc (.cells #[.int .i64 5,.int .u64 0,.slice A nd cd,.slice AL N cl] 30)).cell? ⟨w.heap.size,3,none⟩=some (.slice AL N cl):=by simp
 have FZ:Hid ((w.alloc (.cells #[.int .i64 5,.int .u64 0,.slice A nd cd,.slice AL N cl] 30)).heap.size=w.heap.size+1):=(by simp:_=_)
 have FB:=hid ((Run.refl vb w).alloc (.cells #[.int .i64 5,.int .u64 0,.slice A nd cd,.slice AL N cl] 30))
 generalize w.alloc (.cells #[.int .i64 5,.int .u64 0,.slice A nd cd,.slice AL N cl] 30)=W0 at *
 have hzl:w.heap.size<W0.heap.size:=by rw [FZ.out];exact Nat.lt_succ_self _
 have hzb:base≤W0.heap.size:=Nat.le_trans HBS.out (Nat.le_of_lt hzl)
 have HZL:=hid hzl
 have HZB:=hid hzb
 have FA:=hid (fun (o:Obj)=>(World.cell?_alloc_lt W0.drew o ⟨w.heap.size,3,none⟩ hzl).trans f3)
 clear hzl hzb
 go_region_held3 (fun W=>W.cell? ⟨w.heap.size,3,none⟩=some (.slice AL N cl))
  (first
   | (exact f3)
   | (exact FA.out _)
   | (exact q4)
   | (exact q3)
   | fail)
  (first
   | (go_at_call 172;refine (C2.out _ _ B3.out O3.out).mono ?_;rintro e w4 ⟨v4,rfl,ho4,hb4⟩;have O4:=hid ho4;have B4:=hid (B3.out.trans hb4);have q4:=(hb4.cell (p:=⟨w.heap.size,3,none⟩) N3.out.1 N3.out.2).trans q3;clear ho4 hb4)
   | (refine step_appR (by rfl) (.tmp 34) (.tmp 35) 27 (by rfl) base 5 Tryz.underlying27 info_u8 vb lb (by rfl) (HO.out.drew.alloc _) (W0.heap.size+1) (some ⟨W0.heap.size,0,none⟩) 1 1 H (by rfl) (Rd.lit W0.drew _ (by simp) H 5 #[.int .u8 159] (by rw [HH.out];rfl) 1 HL1.out) (by have:=HLEN.out;omega) (Nat.le_trans HZB.out (le_alloc W0.drew _)) ?_;intro v3 w3 ho3 hb3;have O3:=hid ho3;have B3:=hid ((FB.out.drew.alloc _).trans hb3);have q3:=(hb3.cell (p:=⟨w.heap.size,3,none⟩) (Nat.lt_of_lt_of_le HZL.out (le_alloc W0.drew _)) HAP.out).trans (FA.out _);have N3:=hid (And.intro (Nat.lt_of_lt_of_le (Nat.lt_of_lt_of_le HZL.out (le_alloc W0.drew _)) hb3.grown.size) (hb3.ne (k:=w.heap.size) (Nat.lt_of_lt_of_le HZL.out (le_alloc W0.drew _)) HAP.out));clear ho3 hb3)
   | fail)
 have HZ4:=hid (Nat.le_trans HBS.out B4.out.grown.size)
 go_wp2_with (first
  | (at_builtin;refine wpList_appR rfl (.tmp 40) (.tmp 41) 27 rfl base 5 Tryz.underlying27 info_u8 v4 (lb++H++L) rfl (O4.out.alloc _) (w4.heap.size+1) (some ⟨w4.heap.size,0,none⟩) 1 1 [255] rfl (Rd.lit w4 _ rfl [255] 5 #[.int .u8 255] rfl 1 rfl) (by have:=HLEN.out;have:=HL1.out;simp only [List.length_append];omega) (Nat.le_trans HZ4.out (le_alloc _ _)) ?_;intro v5 w5 ho5 hb5;have O5:=hid ho5;have B5:=hid ((B4.out.alloc _).trans hb5);clear ho5 hb5)
  | fail)
 go_ret
 exact ⟨_,rfl,O5.out,B5.out⟩
theorem own_k {k:Int} {n:Nat} {d:List UInt8} {l:List Itm} (h:own k n d l=true):(k=0∧d=[]∧l=[])∨((k=2∨k=3)∧n=0∧l=[])∨((k=4∨k=5)∧n=0∧d=[]):=by
 unfold own at h
 by_cases h0:k=0
 ·
  rw [if_pos h0] at h;simp at h;exact .inl ⟨h0,h.1,h.2⟩
 rw [if_neg h0] at h
 by_cases h2:k=2
 ·
  rw [if_pos h2] at h;simp at h;exact .inr (.inl ⟨.inl h2,h.1,h.2⟩)
 rw [if_neg h2] at h
 by_cases h3:k=3
 ·
  rw [if_pos h3] at h;simp at h;exact .inr (.inl ⟨.inr h3,h.1,h.2.1⟩)
 rw [if_neg h3] at h
 by_cases h4:k=4∨k=5
 ·
  rw [if_pos h4] at h;simp at h;exact .inr (.inr ⟨h4,h.1,h.2⟩)
 ·
  rw [if_neg h4] at h;cases h
theorem cwrite_n:∀ m:Nat,CWriteIH m
 | 0=>fun _ _ _ _ _ _ h=>absurd h (Nat.not_lt_zero _)
 | m+1=>by
  rintro ⟨k,n,d,l⟩ v vb lb w base hm hr hlen hbase h ho
  have IH:=hid (cwrite_n m)
  obtain ⟨A,nd,cd,AL,cl,rfl,h1,h2,h3,h4,h5,h7⟩:=h.open
  rw [right,Bool.and_eq_true] at hr
  rw [par] at hm
  rcases own_k hr.1 with ⟨rfl,rfl,rfl⟩|⟨hk,rfl,rfl⟩|⟨hk,rfl,rfl⟩
  ·
   rw [wri,if_pos rfl] at hlen ⊢
   exact cwrite_uint n nd cd _ cl base A AL vb lb w h2 hbase hlen ho
  ·
   rcases hk with rfl|rfl
   ·
    rw [wri,if_neg (by decide),if_pos (by decide)] at hlen ⊢
    exact cwrite_text2 nd cd _ cl base A AL d vb lb w h3.2 h4 hbase hlen ho
   ·
    rw [wri,if_neg (by decide),if_pos (by decide)] at hlen ⊢
    exact cwrite_text3 nd cd _ cl base A AL d vb lb w h3.2 h4 hbase hlen ho
  ·
   rcases hk with rfl|rfl
   ·
    rw [wri,if_neg (by decide),if_neg (by decide),if_pos rfl] at hlen ⊢
    exact cwrite_arr4 m nd cd l.length cl base A AL l vb lb w (by omega) hbase hlen hr.2 h5 IH h7 rfl ho
   ·
    rw [wri,if_neg (by decide),if_neg (by decide),if_neg (by decide)] at hlen ⊢
    exact cwrite_arr5 m nd cd l.length cl base A AL l vb lb w (by omega) hbase hlen hr.2 h5 IH h7 rfl ho
end Go.Proofs.YtlecbblmaadpiaaGreatDoor
