import Derived.Test.YtbnfkjkoinbkgaaGreatDoorVAbb
import Derived.Test.YtbnfkjkoinbkgaaGreatDoorVCfBibTags
import Derived.Test.YtbnfkjkoinbkgaaGreatDoorVKMake
import Derived.Test.YtbnfkjkoinbkgaaGreatDoorVShaT
import Derived.Laws.MakeOwn
import Derived.Deep.RegionHeld3
namespace Go.Proofs.YtbnfkjkoinbkgaaGreatDoor
set_option maxRecDepth 100000
set_option maxHeartbeats 16000000
open Go.RowKit
open Go.Lib (hid)
theorem RdIs.app{W:World}{B b:Nat}:∀ {l m:List Itm} {o:Nat},RdIs W B b o l→RdIs W B b (o+l.length*4) m→RdIs W B b o (l++m)
 | [],m,o,_,h=>by simpa using h
 | x::r,m,o,h,h2=>by
  rw[List.cons_append]
  rw[RdIs] at h ⊢
  refine⟨h.1,RdIs.app h.2 ?_⟩;rw[List.length_cons,show o+(r.length+1)*4=o+4+r.length*4 by omega] at h2
  exact h2
theorem Qoe(lo:Nat)(A:OA)(n c B:Nat)(l:LB)(w:World)(hlo:lo≤w.heap.size)(hB:B≤w.heap.size)(h:Rd w B A n l)(hn:n≤140737488355328) :
  Calls Tryz.prog 64 #[.slice A n c] w (Qbj lo (.mk 2 0 l []) w):=by
 have HR:=hid ((h.alloc hB zk0).alloc (Nat.le_trans hB (Qaa _ _)) (.cells #[] 5));have HO:=hid (show Ob ((w.alloc zk0).alloc (.cells #[] 5)) (w.heap.size+1) 5 (.slice (some ⟨w.heap.size+1,0,none⟩) 0 0) [] by
  have h:=Ob.lit (base:=w.heap.size+1) (t:=5) (w.alloc zk0) [] #[] rfl (by simp) 0 rfl (by decide);simpa using h)
 have HN:Hid (([]:LB).length+n≤140737488355328):=by show _≤_;simp;exact hn
 have hl:=h.1;have HLN:=hid hl;have HLO:=hid hlo;clear h hn hl hB hlo;go_enter Tryz.func64,Tryz.ntmps64;go_wp2_with (first
  | (at_builtin;refine Qam rfl (.tmp 3) (.tmp 4) 29 rfl (w.heap.size+1) 5 Tryz.underlying29 Qak _ [] rfl HO.out B A n c l rfl HR.out HN.out (by simp) ?_;intro v1 w1 ho1 hb1;have O1:=hid ho1;have B1:=hid (((Below.refl (w.heap.size+1) (w.alloc zk0)).alloc (by simp) _).trans hb1);obtain⟨⟨z0,z1,z2,z3⟩,f0,f1,f2,f3⟩:=Qa4 B1.out;have ho2:=O1.out;rw[List.nil_append] at ho2;obtain⟨A2,c2,rfl,hc2,hm2,hr2⟩:=ho2.rdn HLN.out;have HR2:=hid hr2;have HO2:=hid ho2;clear ho1 hb1 hr2 ho2)
  | fail)
 have hblk:∀ b o,0<n→A2=some ⟨b,o,none⟩→w.heap.size<b:=by
  intro b o hn h;obtain⟨g,cap,hv,hg,_,_⟩:=HO2.out.form (by rw[HLN.out];exact hn);subst h;cases hv
  omega
 have HLO':=HLO.out;refine bodyPost_ret (v:=.agg #[.int .i64 2,.int .u64 0,.slice A2 n c2,.slice none 0 0]) (by simp[results,Tryz.results64,go_sem,z0,z1,z2,z3]) rfl ⟨_,rfl,RdI.mk_data (by decide) hc2 (by have:=HN.out;simpa using this) (Rd.mask_any ?_ (fun hn b o h=>by have:=hblk b o hn h;omega)),?_⟩
 ·
  refine Rd.set4 (HR2.out.more (by simp[World.setCell])) (fun hn b o h=>?_);have:=hblk b o hn h
  omega
 ·
  exact Qas (zb.trans (B1.out.mono (Nat.le_succ _))) zr
theorem Qwb(W:World)(c0 c1 c2 c3:Value){t:TypeId}:∀ j u,([c0,c1,c2,c3]:List Value)[j]?=some u→(W.alloc (.cells #[c0,c1,c2,c3] t)).cell? ((⟨W.heap.size,0,none⟩:Addr).add j)=some u:=fun j u hj=>by
 rw[show(⟨W.heap.size,0,none⟩:Addr).add j=⟨W.heap.size,j,none⟩ by unfold Addr.add;split <;> simp_all,World.cell?_alloc_at _ _ _ _ rfl]
 simpa using hj
theorem Q5f(k n:Int)(A:OA)(nd cd:Nat)(AL:OA)(nl cl:Nat):∀ u∈([.int .i64 k,.int .u64 n,.slice A nd cd,.slice AL nl cl]:List Value),u.oneCell'=true:=fun u hu=>by
 simp only[List.mem_cons,List.not_mem_nil,or_false] at hu;rcases hu with rfl|rfl|rfl|rfl <;> rfl
theorem Qwk{w w':World}{base g n cap:Nat}{e:TypeId}{xs:List Value}(ho:w.ownsRow base e 4 (.slice (some ⟨g,0,none⟩) n cap) n xs)(hg:w.grownBy w' (some g))(hb:base≤w.heap.size):Below base w w':=Qix ho hg hb
theorem Qw5{w a w3:World}{base g n cap:Nat}{e:TypeId}{xs:List Value}(h0:Below base w a)(ho:a.ownsRow base e 4 (.slice (some ⟨g,0,none⟩) n cap) n xs)(hg:a.grownBy w3 (some g))(hb:base≤a.heap.size):Below base w w3:=h0.trans (Qwk ho hg hb)
theorem Q0c{w:World}{base g n cap:Nat}{e:TypeId}{xs:List Value}(h:w.ownsRow base e 4 (.slice (some ⟨g,0,none⟩) n cap) n xs):n≤cap:=by
 rcases h.2 with ⟨hv,_⟩|⟨g',cap',cur,hv,_,_,hnc,_⟩
 ·
  cases hv
 ·
  injection hv with _ _ h3
  omega
theorem Qhy{P:Program}{md:Region.Mode}{l:List Oper}{Q:Exit→Act→World→Prop}{S:World→Prop}{i:Nat}{oi:Oper}{v:Value}{fuel:Nat}{listed:Array Bool}{a:Act}{w:World}(hi:l[i]?=some oi)
  (hs:Region.noSelect l.toArray=true) (hf:Region.free md l.toArray listed i=true) (hr:(Region.ready md l.toArray listed).contains i=true)
  (hQ:∀ c a w,Q (.panic c) (a.put oi.dst v) w→Q (.panic c) a w) (hw:Region.wanted oi (yielded l.toArray a.tmps)=true) (hy:∀ w,S w→(execOp a.eval oi).run P w=.ok (.value v) w) (hS:S w)
  (h:wpAnyH P md l.toArray Q S fuel (listed.setIfInBounds i true) (a.put oi.dst v) w):wpAnyH P md l.toArray Q S (fuel+1) listed a w :=
 wpAnyH_take (oi:=oi) (v:=v) (by simpa using hi) hs hf hr hQ (Or.inl ⟨hw,hy⟩) hS h
theorem Qkn{P:Program}{o:Oper}{a:Act}{w:World}{K:Act→World→Prop}{Q:Exit→Act→World→Prop}(l c:Operand)(t:TypeId)(hop:o.op=Op.makeSlice t l c)
  (e:TypeId) (ht:P.underlying t=some (.slice e)) (hinfo:(P.info? e).map (fun i=>(i.zero,i.size,i.bytes))=some (some (.int .u8 0),1,1)) (M:Nat) (hl:a.eval l=.int .i64 (M:Int)) (hc:a.eval c=.int .i64 (M:Int)) (hC:M≤140737488355328)
  (h:∀ w':World,Ob w' w.heap.size e (.slice (some ⟨w.heap.size,0,none⟩) M M) (List.replicate M 0)→Below w.heap.size w w'→K (a.put o.dst (.slice (some ⟨w.heap.size,0,none⟩) M M)) w'):Oper.wp P o a w K Q:=by
 obtain⟨i,hi,hzz⟩:=Option.map_eq_some_iff.1 hinfo;simp only[Prod.mk.injEq] at hzz;obtain⟨hz,hs,hb⟩:=hzz;have hr:=run_make (P:=P) w t e i (.int .u8 0) ht hi hz .i64 .i64 (M:Int) (M:Int) (by omega) (by omega) (by rw[hb];omega) (by omega);simp only[Int.toNat_natCast,hs,Nat.mul_one] at hr;unfold Oper.wp;simp[execOp,hop,hl,hc,hr,Result.andThen];refine h _ ⟨?_,.inr ⟨w.heap.size,M,_,by simp,Nat.le_refl _,heap_alloc_new w _,by simp,by unfold maxLen;omega,by rw[size_madeCells,Nat.mul_one],?_⟩⟩ zb
 ·
  simp
 ·
  apply List.ext_getElem?;intro j;have hz1:(Value.int IntKind.u8 0).cells=#[.int .u8 0]:=rfl;rw[hz1]
  by_cases hj:j<M
  ·
   simp[hj,madeCells,Nat.mod_one,bv]
  ·
   simp[hj];omega
theorem Qn2{w w3 w5 w6:World}{g3 g6 cap6 base m:Nat}{e:TypeId}{ob:Obj}{cs:List Value}{items:List Itm}{x:Itm}{c0 c1 c2 c3:Value}
  (n4:∀ (W':World) (B' b' o':Nat),(∀ j u,cs[j]?=some u→W'.cell? ⟨b',o'+j,none⟩=some u)→(∀ p:Addr,p.block<w.heap.size→W'.cell? p=w.cell? p)→w.heap.size≤B'→RdIs W' B' b' o' items)
  (hb:Below w.heap.size w w6) (ho:w6.ownsRow base e 4 (.slice (some ⟨g6,0,none⟩) (m+1) cap6) (m+1) (cs++[c0,c1,c2,c3])) (hcs:cs.length=m*4) (hi:items.length=m)
  (hv:RdI (Qap (Qax w3.heap.size) w5) w5.heap.size (.agg #[c0,c1,c2,c3]) x) (hg:(w5.alloc ob).grownBy w6 (some g3)) (hg3:g3<w3.heap.size) :
  RdIs w6 w6.heap.size g6 0 (items++[x]):=by
 have hs5:(w5.alloc ob).heap.size=w5.heap.size+1:=by simp
 have hz:=hg.size;have cell:∀ j u,(cs++[c0,c1,c2,c3])[j]?=some u→w6.cell? ⟨g6,j,none⟩=some u:=fun j u hj=>by
  have hjl:j<(m+1)*4:=by
   rcases Nat.lt_or_ge j ((m+1)*4) with h|h
   ·
    exact h
   ·
    rw[List.getElem?_eq_none (by simp[hcs];omega)] at hj;cases hj
  rw[World.ownsRow.cellAt ho j hjl]
  exact hj
 refine RdIs.app (n4 w6 _ g6 0 (fun j u hj=>?_) (fun p hp=>hb.cell hp) hb.size) ?_
 ·
  rw[Nat.zero_add]
  refine cell j u ?_;rw[List.getElem?_append_left (by rcases Nat.lt_or_ge j cs.length with h|h;exact h;rw[List.getElem?_eq_none h] at hj;cases hj)]
  exact hj
 ·
  rw[RdIs,RdIs,hi,Nat.zero_add]
  have hx:RdI w6 w6.heap.size (.agg #[c0,c1,c2,c3]) x:=hv.sub (by omega) (fun p u _ hc=>by
   have h1:=Qaz.1 (Qb6 hc);have h2:=Qaj hc;have hlt:=World.block_lt_of_cell? w5 p h2;rw[World.cell?_of_block (hg.block p.block (by omega) (fun e=>by injection e with e;omega)),World.cell?_alloc_lt _ _ _ hlt]
   exact h2)
  have at_:∀ i,i<4→(cs++[c0,c1,c2,c3])[m*4+i]?=[c0,c1,c2,c3][i]?:=fun i hi=>by
   rw[List.getElem?_append_right (by rw[hcs];omega),hcs,Nat.add_sub_cancel_left]
  exact⟨⟨c0,c1,c2,c3,cell _ _ (at_ 0 (by decide)),cell _ _ (at_ 1 (by decide)),cell _ _ (at_ 2 (by decide)),cell _ _ (at_ 3 (by decide)),hx⟩,trivial⟩
theorem Rd.grownS{w w':World}{B n:Nat}{A:OA}{l:LB}{row:Option Nat}(h:Rd w B A n l)(hg:w.grownBy w' row)(hB:B≤w.heap.size)(hne:∀ b o,A=some ⟨b,o,none⟩→row≠some b):Rd w' B A n l :=
 ⟨h.1,fun hn=>by
  obtain⟨b,o,e,hb,hc⟩:=h.2 hn;refine⟨b,o,e,hb,fun i hi=>?_⟩;rw[← hc i hi]
  simp only[World.cell?];rw[hg.block b (by omega) (fun h=>hne b o e h.symm)]⟩
theorem Qmb(g m cap:Nat)(its:List Itm)(k:Int)(N:Nat)(w:World)(hk:(k=1∧N=2)∨(k=2∧N=4))(hg:g<w.heap.size)(h:RdIs w w.heap.size g 0 its)(hm:its.length=m)(h0:0<m)(hmx:m≤1000)(_hcap:m≤cap)
  (hF:Qkk (.mk 4 0 [] (its++[.mk 2 0 (List.replicate N 0) []]))) (hp:par (.mk 4 0 [] (its++[.mk 2 0 (List.replicate N 0) []]))≤1000000) (hh:hgt (.mk 4 0 [] (its++[.mk 2 0 (List.replicate N 0) []]))≤1001)
  (hlen:(wri (.mk 4 0 [] (its++[.mk 2 0 (List.replicate N 0) []]))).length≤1000000) (hN:N≤(wri (.mk 4 0 [] (its++[.mk 2 0 (List.replicate N 0) []]))).length) :
  Calls Tryz.prog 35 #[.slice (some ⟨g,0,none⟩) m cap,.int .i64 k] w (Qno ((wri (.mk 4 0 [] (its++[.mk 2 0 (List.replicate N 0) []]))).take ((wri (.mk 4 0 [] (its++[.mk 2 0 (List.replicate N 0) []]))).length - N)++Qbb k (wri (.mk 4 0 [] (its++[.mk 2 0 (List.replicate N 0) []])))) w):=by
 obtain⟨i0,hi0,hz0,hz1,hz2'⟩:=info_parts Qbr;have HI:=hid hi0;have HZ0:=hid hz0;have HZ1:=hid hz1;have HZ2:=hid hz2';obtain⟨cs,n1,n2,n3,n4⟩:=h.news;rw[hm] at n1
 have hkz:(k==0)=false:=by rcases hk with ⟨rfl,_⟩|⟨rfl,_⟩ <;> rfl
 have hkN:wrap64 (2*k)=(N:Int):=by rcases hk with ⟨rfl,rfl⟩|⟨rfl,rfl⟩ <;> (unfold wrap64;omega)
 have HN4:Hid (N≤4∧0<N):=by rcases hk with ⟨rfl,rfl⟩|⟨rfl,rfl⟩ <;> exact⟨by decide,by decide⟩
 have N1:Hid (cs.length=m*4):=n1;have N2:Hid (∀ (W:World),Below w.heap.size w W→∀ j u,cs[j]?=some u→W.cell? ((⟨g,0,none⟩:Addr).add j)=some u):=fun W hW j u hj=>by
  rw[show(⟨g,0,none⟩:Addr).add j=⟨g,j,none⟩ by unfold Addr.add;split <;> simp_all]
  have:=n2 j u hj
  rw[Nat.zero_add] at this
  rw[hW.cell (p:=⟨g,j,none⟩) hg]
  exact this
 have N3:=hid n3;have N4:=hid n4;have HMX:=hid (And.intro h0 hmx);have HIM:=hid hm;have CRB:=hid (fun (g6 cap6:Nat) (W:World) (hg6:g6<W.heap.size) (hr:RdIs W W.heap.size g6 0 (its++[.mk 2 0 (List.replicate N 0) []])) (hc:m+1≤cap6)=>Qjy g6 0 (m+1) cap6 W.heap.size (its++[.mk 2 0 (List.replicate N 0) []]) W zr hg6 hr (by rw[List.length_append,hm];rfl) (by omega) (by omega) hc);have CE:=hid (fun v W (hr:RdI W W.heap.size v (.mk 4 0 [] (its++[.mk 2 0 (List.replicate N 0) []])))=>Qh9 (.mk 4 0 [] (its++[.mk 2 0 (List.replicate N 0) []])) v W W.heap.size hp hh (fun _=>Nat.le_trans hlen (by decide)) zr hr)
 rw[Qvw hF] at CE
 obtain⟨X,hX⟩:∃ X,X=Itm.mk 4 0 [] (its++[.mk 2 0 (List.replicate N 0) []]):=⟨_,rfl⟩
 have HXE:Hid (Itm.mk 4 0 [] (its++[.mk 2 0 (List.replicate N 0) []])=X):=hX.symm;rw[← hX] at CE CRB hlen hN
 rw[← hX]
 clear hX hF hp hh;generalize wri X=BL at *;have CK:=hid (fun (A:OA) (c':Nat) (W:World) (hr:Rd W W.heap.size A BL.length BL)=>Qpc k A BL.length c' W.heap.size BL W hr (Nat.le_trans hlen (by decide)));have HCL:Hid ((Qbb k BL).length≤4):=by show _≤_;rw[Qdm];exact Qh0 k
 generalize Qbb k BL=SB at *;obtain⟨M,hM⟩:∃ M,BL.length=M+N:=⟨BL.length - N,by omega⟩
 have HMM:Hid (BL.length - N=M):=by show _=_;omega
 rw[HMM.out]
 have hwr:wrap64 ((BL.length:Int) - (N:Int))=(M:Int):=by rw[hM];unfold wrap64;omega
 have HLB:=hid hlen;have HM2:Hid (M≤BL.length):=by show _≤_;omega
 have HG:=hid hg;have HO0:=hid (fun (W:World) (hb:w.heap.size≤W.heap.size)=>World.ownsRow_lit (base:=w.heap.size) (e:=119) (size:=4) W #[] 0 hb (by decide) rfl);clear n1 n2 n3 n4 hi0 hz0 hz1 hz2' h hm h0 hmx hlen hN hM hg hk;go_enter Tryz.func35,Tryz.ntmps35;go_wp2_with fail;refine wp_region_held_drew (S:=fun W=>Below w.heap.size w W) (by kernel_rfl) Below.drew_ (fun hHeld=>?_);refine Qhy (i:=1) (v:=?_) rfl (by kernel_rfl) (by kernel_rfl) (by kernel_rfl) (fun _ _ _ h=>h) (by rfl) ?_ (by assumption) ?_;rotate_left
 ·
  (intro w hSw;go_simp;try with_reducible rfl)
 try simp only[zs]
 refine Qhy (i:=3) (v:=?_) rfl (by kernel_rfl) (by kernel_rfl) (by kernel_rfl) (fun _ _ _ h=>h) (by rfl) ?_ (by assumption) ?_;rotate_left
 ·
  (intro w hSw;go_simp;try with_reducible rfl)
 try simp only[zs]
 have BT:=hid hHeld;clear hHeld;obtain⟨wc,hwc⟩:∃ wc,wc=w.drew:=⟨_,rfl⟩
 rw[← hwc] at BT
 rw[← hwc]
 clear hwc;refine wpAnyH_ready (rs:=[0,4]) (by kernel_rfl) (by simp) ?_;refine AllReadyH.cons rfl (fun K hK=>?a0) ?b0
 case' a0 =>
  rw[if_pos (by rfl)]
  go_simp
  have O0:=hid (HO0.out wc BT.out.size);have BN:Hid (Below w.heap.size w (wc.alloc (.cells #[] 119))):=BT.out.alloc BT.out.size _;have G0:Hid (wc.heap.size<(wc.alloc (.cells #[] 119)).heap.size):=by show _<_;simp
  clear BT;have BT:=BN;clear BN;refine hK.out _ _ BT.out (fun hHeld=>?_);try simp only[zs]
  clear hK K hHeld;generalize wc.alloc (.cells #[] 119)=wd at *;generalize wc.heap.size=g0 at *;clear wc;obtain⟨wc,rfl⟩:∃ wc,wc=wd:=⟨_,rfl⟩
  refine wpAnyH_ready (rs:=[2,4]) (by kernel_rfl) (by simp) ?_;refine AllReadyH.cons rfl (fun K hK=>?a1) ?b1
  case' a1 =>
   refine step_append_lies _ (by rfl) (.tmp 23) (.tmp 24) 80 (by rfl) w.heap.size 119 i0 _ 4 64 Tryz.underlying80 HI.out HZ0.out HZ1.out HZ2.out rfl (by decide) _ 0 [] (by rfl) O0.out ⟨g,0,none⟩ m cap cs (by rfl) N1.out (N2.out _ BT.out) N3.out HMX.out.1 (by have:=HMX.out.2;unfold maxLen;omega) (by have:=HMX.out.2;omega) BT.out.size _ rfl ?_;intro g3 cap3 wd ho3 hg3 hat3 hlt3;rw[Nat.zero_add] at ho3
   rw[Nat.zero_add]
   have O3:Hid (wd.ownsRow w.heap.size 119 4 (.slice (some ⟨g3,0,none⟩) m cap3) m cs):=ho3;have LT3:=hid hlt3;have BN:Hid (Below w.heap.size w wd):=Qw5 BT.out O0.out hg3 BT.out.size;clear BT ho3 hg3 hat3 hlt3 O0 G0;try clear GZ
   have BT:=BN;clear BN;refine hK.out _ _ BT.out (fun hHeld=>?_);try simp only[zs]
   clear hK K hHeld;clear wc;obtain⟨wc,rfl⟩:∃ wc,wc=wd:=⟨_,rfl⟩
   refine wpAnyH_ready (rs:=[4]) (by kernel_rfl) (by simp) ?_;refine AllReadyH.cons rfl (fun K hK=>?_) AllReadyH.nil;rw[if_pos (by rfl)]
   refine Qkn (.tmp 26) (.tmp 26) 29 rfl 5 Tryz.underlying29 Qak N rfl rfl (by have:=HN4.out;omega) ?_;intro wd ho hb;obtain⟨A0,c0,hv0,-,-,hr0⟩:=ho.rdn (n:=N) (List.length_replicate ..);obtain⟨rfl,rfl⟩:A0=some ⟨wc.heap.size,0,none⟩∧N=c0:=by injection hv0 with h1 h2 h3;exact⟨h1.symm,h3⟩
   have RZ:=hid hr0;have GZ:Hid (wc.heap.size<wd.heap.size):=by
    obtain⟨b,o,e,hlt,-⟩:=hr0.2 HN4.out.2;injection e with e
    injection e with e1 e2
    show _<_;omega
   replace O3:=hid (Qa7 O3.out hb);replace LT3:Hid (g3<wd.heap.size):=by show _<_;have:=LT3.out;have:=GZ.out;omega
   have BN:Hid (Below w.heap.size w wd):=BT.out.trans (hb.mono BT.out.size);clear BT hb ho hr0 hv0;have BT:=BN;clear BN;refine hK.out _ _ BT.out (fun hHeld=>?_);try simp only[zs]
   clear hK K hHeld;generalize wc.heap.size=gz at *;clear wc;obtain⟨wc,rfl⟩:∃ wc,wc=wd:=⟨_,rfl⟩
  case' b1 =>
   refine AllReadyH.cons rfl (fun K hK=>?_) AllReadyH.nil;rw[if_pos (by rfl)]
   refine Qkn (.tmp 26) (.tmp 26) 29 rfl 5 Tryz.underlying29 Qak N rfl rfl (by have:=HN4.out;omega) ?_;intro wd ho hb;obtain⟨A0,c0,hv0,-,-,hr0⟩:=ho.rdn (n:=N) (List.length_replicate ..);obtain⟨rfl,rfl⟩:A0=some ⟨wc.heap.size,0,none⟩∧N=c0:=by injection hv0 with h1 h2 h3;exact⟨h1.symm,h3⟩
   have RZ:=hid hr0;have GZ:Hid (wc.heap.size<wd.heap.size):=by
    obtain⟨b,o,e,hlt,-⟩:=hr0.2 HN4.out.2;injection e with e
    injection e with e1 e2
    show _<_;omega
   have NE:Hid (wc.heap.size≠g0):=by show _≠_;have:=G0.out;omega
   replace O0:=hid (Qa7 O0.out hb);replace G0:Hid (g0<wd.heap.size):=by show _<_;have:=G0.out;have:=GZ.out;omega
   have BN:Hid (Below w.heap.size w wd):=BT.out.trans (hb.mono BT.out.size);clear BT hb ho hr0 hv0;have BT:=BN;clear BN;refine hK.out _ _ BT.out (fun hHeld=>?_);try simp only[zs]
   clear hK K hHeld;generalize wc.heap.size=gz at *;clear wc;obtain⟨wc,rfl⟩:∃ wc,wc=wd:=⟨_,rfl⟩
   refine wpAnyH_ready (rs:=[2]) (by kernel_rfl) (by simp) ?_;refine AllReadyH.cons rfl (fun K hK=>?_) AllReadyH.nil;refine step_append_lies _ (by rfl) (.tmp 23) (.tmp 24) 80 (by rfl) w.heap.size 119 i0 _ 4 64 Tryz.underlying80 HI.out HZ0.out HZ1.out HZ2.out rfl (by decide) _ 0 [] (by rfl) O0.out ⟨g,0,none⟩ m cap cs (by rfl) N1.out (N2.out _ BT.out) N3.out HMX.out.1 (by have:=HMX.out.2;unfold maxLen;omega) (by have:=HMX.out.2;omega) BT.out.size _ rfl ?_;intro g3 cap3 wd ho3 hg3 hat3 hlt3;rw[Nat.zero_add] at ho3
   rw[Nat.zero_add]
   have O3:Hid (wd.ownsRow w.heap.size 119 4 (.slice (some ⟨g3,0,none⟩) m cap3) m cs):=ho3;have LT3:=hid hlt3;have BN:Hid (Below w.heap.size w wd):=Qw5 BT.out O0.out hg3 BT.out.size;replace RZ:=hid ((RZ.out.grownS hg3 zr (fun b o e e2=>by injection e with e;injection e with e1;injection e2 with e2;exact NE.out (by rw[e1];exact e2.symm))).more hg3.size);clear NE;clear BT ho3 hg3 hat3 hlt3 O0 G0;try clear GZ
   have BT:=BN;clear BN;refine hK.out _ _ BT.out (fun hHeld=>?_);try simp only[zs]
   clear hK K hHeld;clear wc;obtain⟨wc,rfl⟩:∃ wc,wc=wd:=⟨_,rfl⟩
 case' b0 =>
  refine AllReadyH.cons rfl (fun K hK=>?_) AllReadyH.nil;rw[if_pos (by rfl)]
  refine Qkn (.tmp 26) (.tmp 26) 29 rfl 5 Tryz.underlying29 Qak N rfl rfl (by have:=HN4.out;omega) ?_;intro wd ho hb;obtain⟨A0,c0,hv0,-,-,hr0⟩:=ho.rdn (n:=N) (List.length_replicate ..);obtain⟨rfl,rfl⟩:A0=some ⟨wc.heap.size,0,none⟩∧N=c0:=by injection hv0 with h1 h2 h3;exact⟨h1.symm,h3⟩
  have RZ:=hid hr0;have GZ:Hid (wc.heap.size<wd.heap.size):=by
   obtain⟨b,o,e,hlt,-⟩:=hr0.2 HN4.out.2;injection e with e
   injection e with e1 e2
   show _<_;omega
  have BN:Hid (Below w.heap.size w wd):=BT.out.trans (hb.mono BT.out.size);clear BT hb ho hr0 hv0;have BT:=BN;clear BN;refine hK.out _ _ BT.out (fun hHeld=>?_);try simp only[zs]
  clear hK K hHeld;generalize wc.heap.size=gz at *;clear wc;obtain⟨wc,rfl⟩:∃ wc,wc=wd:=⟨_,rfl⟩
  refine wpAnyH_ready (rs:=[0]) (by kernel_rfl) (by simp) ?_;refine AllReadyH.cons rfl (fun K hK=>?_) AllReadyH.nil;rw[if_pos (by rfl)]
  go_simp
  have O0:=hid (HO0.out wc BT.out.size);have BN:Hid (Below w.heap.size w (wc.alloc (.cells #[] 119))):=BT.out.alloc BT.out.size _;have RZ2:=hid ((RZ.out.alloc zr (.cells #[] 119)).more (Qaa _ (.cells #[] 119)));have NE:Hid (gz≠wc.heap.size):=by show _≠_;have:=GZ.out;omega
  clear RZ;have RZ:=RZ2;clear RZ2;have G0:Hid (wc.heap.size<(wc.alloc (.cells #[] 119)).heap.size):=by show _<_;simp
  clear BT;have BT:=BN;clear BN;refine hK.out _ _ BT.out (fun hHeld=>?_);try simp only[zs]
  clear hK K hHeld;generalize wc.alloc (.cells #[] 119)=wd at *;generalize wc.heap.size=g0 at *;clear wc;obtain⟨wc,rfl⟩:∃ wc,wc=wd:=⟨_,rfl⟩
  refine wpAnyH_ready (rs:=[2]) (by kernel_rfl) (by simp) ?_;refine AllReadyH.cons rfl (fun K hK=>?_) AllReadyH.nil;refine step_append_lies _ (by rfl) (.tmp 23) (.tmp 24) 80 (by rfl) w.heap.size 119 i0 _ 4 64 Tryz.underlying80 HI.out HZ0.out HZ1.out HZ2.out rfl (by decide) _ 0 [] (by rfl) O0.out ⟨g,0,none⟩ m cap cs (by rfl) N1.out (N2.out _ BT.out) N3.out HMX.out.1 (by have:=HMX.out.2;unfold maxLen;omega) (by have:=HMX.out.2;omega) BT.out.size _ rfl ?_;intro g3 cap3 wd ho3 hg3 hat3 hlt3;rw[Nat.zero_add] at ho3
  rw[Nat.zero_add]
  have O3:Hid (wd.ownsRow w.heap.size 119 4 (.slice (some ⟨g3,0,none⟩) m cap3) m cs):=ho3;have LT3:=hid hlt3;have BN:Hid (Below w.heap.size w wd):=Qw5 BT.out O0.out hg3 BT.out.size;replace RZ:=hid ((RZ.out.grownS hg3 zr (fun b o e e2=>by injection e with e;injection e with e1;injection e2 with e2;exact NE.out (by rw[e1];exact e2.symm))).more hg3.size);clear NE;clear BT ho3 hg3 hat3 hlt3 O0 G0;try clear GZ
  have BT:=BN;clear BN;refine hK.out _ _ BT.out (fun hHeld=>?_);try simp only[zs]
  clear hK K hHeld;clear wc;obtain⟨wc,rfl⟩:∃ wc,wc=wd:=⟨_,rfl⟩
 all_goals
  refine wpAnyH_ready (rs:=[5]) (by kernel_rfl) (by simp) ?_;refine AllReadyH.cons rfl (fun K hK=>?_) AllReadyH.nil;rw[if_pos (by rfl)]
  go_simp
  refine(Qoe wc.heap.size (some ⟨gz,0,none⟩) N N wc.heap.size (List.replicate N 0) wc zr zr RZ.out (by have:=HN4.out;omega)).mono ?_;rintro e w5 ⟨v5,rfl,hv5,hb5⟩;obtain⟨k5,n5,A5,nd5,cd5,AL5,nl5,cl5,rfl⟩:=hv5.form;have V5:=hid hv5;replace BT:=hid (BT.out.trans (hb5.mono BT.out.size));have OX:=hid (Qa7 (Qa7 O3.out hb5) ((Below.refl w5.heap.size w5).alloc zr (zo1 k5 n5 A5 nd5 cd5 AL5 nl5 cl5)));have NX:=hid (Qwb (t:=119) w5 (.int .i64 k5) (.int .u64 (n5:Int)) (.slice A5 nd5 cd5) (.slice AL5 nl5 cl5));have NO:=hid (Q5f k5 n5 A5 nd5 cd5 AL5 nl5 cl5);clear hv5 hb5 O3 RZ
  try clear GZ
  go_simp
  refine hK.out _ _ BT.out (fun hHeld=>?_);try simp only[zs]
  clear hK K;refine wpAnyH_ready (rs:=[6]) (by kernel_rfl) (by simp) ?_;refine AllReadyH.cons rfl (fun K hK=>?_) AllReadyH.nil;rw[if_pos (by rfl)]
  go_simp
  replace BT:=hid (BT.out.alloc BT.out.size (zo1 k5 n5 A5 nd5 cd5 AL5 nl5 cl5));refine hK.out _ _ BT.out (fun hHeld=>?_);try simp only[zs]
  clear hK K hHeld;refine wpAnyH_ready (rs:=[7]) (by kernel_rfl) (by simp) ?_;refine AllReadyH.cons rfl (fun K hK=>?_) AllReadyH.nil;refine step_append_lies _ (by rfl) (.tmp 25) (.tmp 29) 80 (by rfl) w.heap.size 119 i0 _ 4 64 Tryz.underlying80 HI.out HZ0.out HZ1.out HZ2.out rfl (by decide) _ m _ (by rfl) OX.out ⟨w5.heap.size,0,none⟩ 1 1 _ (by rfl) rfl NX.out NO.out (by decide) (by have:=HMX.out.2;unfold maxLen;omega) (by have:=HMX.out.2;omega) BT.out.size _ rfl ?_;intro g6 cap6 w6 ho6 hg6 hat6 hlt6;have B6:Hid (Below w.heap.size w w6):=Qw5 BT.out OX.out hg6 BT.out.size;have R6:=hid (Qn2 N4.out B6.out ho6 N1.out HIM.out V5.out hg6 LT3.out)
  have CAP6:Hid (m+1≤cap6):=Q0c ho6;have LT6:=hid hlt6;clear BT ho6 hg6 hat6 hlt6 OX NX NO V5 LT3;have BT:=B6;refine hK.out _ _ BT.out (fun hHeld=>?_);try simp only[zs]
  clear hK K hHeld;refine wpAnyH_ready (rs:=[8]) (by kernel_rfl) (by simp) ?_;refine AllReadyH.cons rfl (fun K hK=>?_) AllReadyH.nil;rw[if_pos (by rfl)]
  go_simp
  refine(CRB.out g6 cap6 w6 LT6.out R6.out CAP6.out).mono ?_;rintro e w7 ⟨v7,rfl,hv7,hb7⟩;obtain⟨k7,n7,A7,nd7,cd7,AL7,nl7,cl7,rfl⟩:=hv7.form;have V7:=hid hv7;replace BT:=hid (BT.out.trans (hb7.mono BT.out.size));clear hv7 hb7;go_simp
  refine hK.out _ _ BT.out (fun hHeld=>?_);try simp only[zs]
  clear hK K;refine wpAnyH_ready (rs:=[9]) (by kernel_rfl) (by simp) ?_;refine AllReadyH.cons rfl (fun K hK=>?_) AllReadyH.nil;rw[if_pos (by rfl)]
  go_simp
  refine(CE.out _ _ V7.out).mono ?_;rintro e w8 ⟨v8,rfl,ho8,hb8⟩;obtain⟨A8,c8,rfl,hc8,-,hr8⟩:=ho8.rdn rfl;have R8:=hid hr8;have C8:=hid hc8;replace BT:=hid (BT.out.trans (hb8.mono BT.out.size));clear ho8 hb8 hc8 hr8;go_simp
  refine hK.out _ _ BT.out (fun hHeld=>?_);try simp only[zs]
  clear hK K;have hHeld:=BT.out;refine Qhy (i:=10) (v:=?_) rfl (by kernel_rfl) (by kernel_rfl) (by kernel_rfl) (fun _ _ _ h=>h) (by rfl) ?_ (by assumption) ?_;rotate_left
  ·
   (intro w hSw;go_simp;try with_reducible rfl)
  try simp only[zs]
  refine Qhy (i:=11) (v:=?_) rfl (by kernel_rfl) (by kernel_rfl) (by kernel_rfl) (fun _ _ _ h=>h) (by rfl) ?_ (by assumption) ?_;rotate_left
  ·
   (intro w hSw;go_simp;try with_reducible rfl)
  try simp only[zs]
  refine Qhy (i:=13) (v:=?_) rfl (by kernel_rfl) (by kernel_rfl) (by kernel_rfl) (fun _ _ _ h=>h) (by rfl) ?_ (by assumption) ?_;rotate_left
  ·
   (intro w hSw;go_simp;try with_reducible rfl)
  try simp only[zs]
  refine Qhy (i:=12) (v:=?_) rfl (by kernel_rfl) (by kernel_rfl) (by kernel_rfl) (fun _ _ _ h=>h) (by rfl) ?_ (by assumption) ?_;rotate_left
  ·
   (intro w hSw;go_simp;try with_reducible rfl)
  try simp only[zs]
  refine Qhy (i:=14) (v:=?_) rfl (by kernel_rfl) (by kernel_rfl) (by kernel_rfl) (fun _ _ _ h=>h) (by rfl) ?_ (by assumption) ?_;rotate_left
  ·
   (intro w hSw;go_simp;try with_reducible rfl)
  try simp only[zs]
  refine wpAnyH_done (by kernel_rfl) ?_ _;go_wp2_with fail;refine(CK.out A8 c8 w8 R8.out).mono ?_;rintro e w9 ⟨A9,n9,c9,rfl,hr9,hc9,hb9⟩;have B9:=hid (BT.out.trans (hb9.mono BT.out.size));obtain⟨D1,d1,k1,hd1,-,r1⟩:=Q4j (P:=Tryz.prog) 29 5 Tryz.underlying29 Qdc c8 (R8.out.below hb9) (M:Int) M rfl HM2.out C8.out;have HO9:=hid (Ob.lit w9 [] #[] rfl zr 0 rfl (by decide):Ob (w9.alloc (.cells #[] 5)) w9.heap.size 5 (.slice (some ⟨w9.heap.size,0,none⟩) 0 0) []);have RD1:=hid ((r1.more hb9.size).alloc zr (.cells #[] 5));have RS9:=hid hr9;have H9:Hid (n9≤4):=by show _≤_;rw[← hr9.1];exact HCL.out
  have HBD1:Hid (([]:LB).length+M≤140737488355328):=by show _≤_;have:=HLB.out;have:=HM2.out;simp;omega
  have HBD2:Hid ((([]:LB)++BL.take M).length+n9≤140737488355328):=by show _≤_;have:=HLB.out;have:=H9.out;rw[List.nil_append,List.length_take];omega
  clear r1 hb9 hr9 hc9 hd1;go_wp2_with (first
   | (at_builtin;refine Qam rfl (.tmp 38) (.tmp 44) 29 rfl w9.heap.size 5 Tryz.underlying29 Qak _ [] rfl HO9.out w9.heap.size D1 M d1 (BL.take M) rfl RD1.out HBD1.out (Qaa _ _) ?_;intro v3 w10 ho3 hb3;have O10:=hid ho3;have Y10:=hid (((Below.refl w9.heap.size w9).alloc zr _).trans hb3);clear ho3 hb3)
   | (at_builtin;refine Qam rfl (.tmp 45) (.tmp 46) 29 rfl w9.heap.size 5 Tryz.underlying29 Qak _ _ rfl O10.out w9.heap.size A9 n9 c9 SB rfl (RS9.out.below Y10.out) HBD2.out Y10.out.size ?_;intro v4 w11 ho4 hb4;have O11:=hid ho4;have Y11:=hid (Y10.out.trans hb4);clear ho4 hb4)
   | fail)
  have ho:=O11.out;rw[List.nil_append] at ho
  obtain⟨AE,cE,rfl,hcE,-,hrE⟩:=ho.rd;go_ret;exact⟨_,_,_,rfl,hrE,hcE,B9.out.trans (Y11.out.mono B9.out.size)⟩
theorem Qjc(a b:LB)(N:Nat)(h:b.length=N):(a++b).take ((a++b).length - N)=a:=by
 rw[List.length_append,h,Nat.add_sub_cancel,List.take_left]
end Go.Proofs.YtbnfkjkoinbkgaaGreatDoor
