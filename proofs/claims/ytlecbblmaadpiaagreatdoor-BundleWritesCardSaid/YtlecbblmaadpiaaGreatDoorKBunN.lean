import Derived.Test.YtlecbblmaadpiaaGreatDoorKBunD
import Derived.Test.YtlecbblmaadpiaaGreatDoorKBunJ
import Derived.Test.YtlecbblmaadpiaaGreatDoorKBunL
namespace Go.Proofs.YtlecbblmaadpiaaGreatDoor
set_option maxRecDepth 100000
set_option maxHeartbeats 16000000
open Go.RowKit
open Go.Lib (hid)
def IsBun (l:List UInt8) (b:Bun):Prop:=cauU b=0∧BdP b∧okBs b.blks∧l=bunW b∧l.length≤4096
def ReadU (l:List UInt8) (w:World) (e:Ending) (w':World):Prop:=Below w.heap.size w w' ∧
 ((∃ (h:BH) (xs:List Blk) (A:Option Addr) (n c:Nat),e=.returned (.tuple #[bunV h A n c,.nilIface])∧h.Bd∧RdL (mask (lows w.heap.size) w') w'.heap.size A n xs∧n≤c∧IsBun l (h.bun xs)) ∨
  ((∀ b,¬ IsBun l b)∧∃ z s,z≠0∧(l.head?≠some 0x9f→z=60)∧e=.returned (.tuple #[.agg #[.int .u64 0,.int .i64 0,.int .i64 0,.string ⟨#[]⟩,.int .u64 0,.int .u64 0,.int .i64 0,.string ⟨#[]⟩,.int .u64 0,.int .u64 0,.int .i64 0,.string ⟨#[]⟩,.int .u64 0,.int .u64 0,.int .u64 0,.int .u64 0,.int .u64 0,.slice none 0 0],ufl z s])))
theorem IsBun.prim {l:List UInt8} {b:Bun} (h:IsBun (0x9f::l) b):PrimAt l b∧l.drop (primW b).length=blkWs b.blks++[0xff]:=by
 obtain ⟨h1,h2,-,h3,-⟩:=h
 unfold bunW at h3
 injection h3 with _ h3
 exact ⟨⟨(primOk_iff.1 (cauU_0.1 h1).2.1).1,h2,_,h3⟩,by rw [h3,List.drop_left]⟩
theorem PrimAt.uniq {l:List UInt8} {a b:Bun} (ha:PrimAt l a) (hb:PrimAt l b):{ a with blks:=[] }={ b with blks:=[] }:=by
 have h:=ha.dec.symm.trans hb.dec
 simp only [Prod.mk.injEq,and_true] at h
 have hl:=congrArg Itm.list h.1
 obtain ⟨h1,h2,h3,h4,h5,h6,h7⟩:=itmP_nine (x0:=.mk 0 7 [] []) (x1:=.mk 0 a.flg [] []) (x2:=.mk 0 a.crc.toNat [] []) (x3:=itemE a.dst) (x4:=itemE a.src) (x5:=itemE a.rep) (x6:=.mk 4 0 [] [.mk 0 a.tim [] [],.mk 0 a.seq [] []]) (x7:=.mk 0 a.lif [] []) (rest:=if a.crc=0 then [] else [.mk 2 0 (sumP a) []]) (b:=b) (s:=sumP b) (by rw [← hl];rfl)
 have i1:=item_inj ha.1.2.1 hb.1.2.1 h3
 have i2:=item_inj ha.1.2.2.1 hb.1.2.2.1 h4
 have i3:=item_inj ha.1.2.2.2 hb.1.2.2.2 h5
 injection h1 with _ h1
 injection h2 with _ h2
 injection h7 with _ h7
 injection h6 with _ _ _ h6
 simp only [List.cons.injEq,Itm.mk.injEq,and_true,true_and] at h6
 have hc:a.crc=b.crc:=by have:=ha.1.1;have:=hb.1.1;omega
 obtain ⟨af,ac,ad,as_,ar,at_,aq,al,ak⟩:=a
 obtain ⟨bf,bc,bd,bs,br,bt,bq,bl,bk⟩:=b
 simp only at h1 hc i1 i2 i3 h6 h7
 obtain ⟨h6,h8⟩:=h6
 subst h1 hc i1 i2 i3 h7 h6 h8
 rfl
theorem okBs_of {b:Bun} (h:blksOk b.blks=true) (hb:∀ y∈b.blks,Bd y):okBs b.blks:=fun y hy=>⟨by
 unfold blksOk at h
 rw [Bool.and_eq_true] at h
 have:∀ (l a:List Blk),frm a l=true→∀ y∈l,blkOk y=true:=by
  intro l
  induction l with
  | nil=>intro a _ y hy;cases hy
  | cons x r ih =>
   intro a h y hy
   rw [frm] at h
   simp only [Bool.and_eq_true] at h
   rcases List.mem_cons.1 hy with rfl|hy
   ·
    exact h.1
   ·
    exact ih _ h.2.2.2.2 y hy
 exact this _ _ h.2 y hy,hb y hy⟩
theorem blksOk_len {l:List Blk} (h:blksOk l=true):1≤l.length∧l.length≤16:=by
 unfold blksOk at h
 rw [Bool.and_eq_true,decide_eq_true_eq] at h
 exact h.1
theorem uread_any (S:Snt) (A:Option Addr) (n c B:Nat) (l:List UInt8) (w:World) (hS:Wd S w) (hB:B≤w.heap.size) (h:Rd w B A n l) (hn:n≤140737488355328) (hc:n≤c) :
  Calls Tryz.prog 139 #[.slice A n c] w (ReadU l w):=by
 have HB0:=hid ((Below.refl w.heap.size w).alloc nlr (.cells #[.int .u64 0,.int .i64 0,.int .i64 0,.string ⟨#[]⟩,.int .u64 0,.int .u64 0,.int .i64 0,.string ⟨#[]⟩,.int .u64 0,.int .u64 0,.int .i64 0,.string ⟨#[]⟩,.int .u64 0,.int .u64 0,.int .u64 0,.int .u64 0,.int .u64 0,.slice none 0 0] 73))
 have HR0:=hid (fun (W:World) (hb:Below (w.heap.size+1) (w.alloc (.cells #[.int .u64 0,.int .i64 0,.int .i64 0,.string ⟨#[]⟩,.int .u64 0,.int .u64 0,.int .i64 0,.string ⟨#[]⟩,.int .u64 0,.int .u64 0,.int .i64 0,.string ⟨#[]⟩,.int .u64 0,.int .u64 0,.int .u64 0,.int .u64 0,.int .u64 0,.slice none 0 0] 73)) W)=>row_of_box rfl hb)
 have HWd:=hid (hS.alloc (.cells #[.int .u64 0,.int .i64 0,.int .i64 0,.string ⟨#[]⟩,.int .u64 0,.int .u64 0,.int .i64 0,.string ⟨#[]⟩,.int .u64 0,.int .u64 0,.int .i64 0,.string ⟨#[]⟩,.int .u64 0,.int .u64 0,.int .u64 0,.int .u64 0,.int .u64 0,.slice none 0 0] 73))
 have HR:=hid h
 have HH:=hid (And.intro hB (And.intro hn hc))
 have CN:=hid unone_any
 have q1:=fun (W:World) (u:TypeId) (x:Value)=>run_neq_iface_nil (P:=Tryz.prog) (w:=W) 95 (by kernel_rfl) u x
 have hs0:(w.alloc (.cells #[.int .u64 0,.int .i64 0,.int .i64 0,.string ⟨#[]⟩,.int .u64 0,.int .u64 0,.int .i64 0,.string ⟨#[]⟩,.int .u64 0,.int .u64 0,.int .i64 0,.string ⟨#[]⟩,.int .u64 0,.int .u64 0,.int .u64 0,.int .u64 0,.int .u64 0,.slice none 0 0] 73)).heap.size=w.heap.size+1:=by simp
 have HS0:=hid hs0
 have HW0:Hid (Below (w.heap.size+1) (w.alloc (.cells #[.int .u64 0,.int .i64 0,.int .i64 0,.string ⟨#[]⟩,.int .u64 0,.int .u64 0,.int .i64 0,.string ⟨#[]⟩,.int .u64 0,.int .u64 0,.int .i64 0,.string ⟨#[]⟩,.int .u64 0,.int .u64 0,.int .u64 0,.int .u64 0,.int .u64 0,.slice none 0 0] 73)) (w.alloc (.cells #[.int .u64 0,.int .i64 0,.int .i64 0,.string ⟨#[]⟩,.int .u64 0,.int .u64 0,.int .i64 0,.string ⟨#[]⟩,.int .u64 0,.int .u64 0,.int .i64 0,.string ⟨#[]⟩,.int .u64 0,.int .u64 0,.int .u64 0,.int .u64 0,.int .u64 0,.slice none 0 0] 73))):=Below.refl _ _
 clear h hB hc hS hs0
 by_cases hbig:4096<n
 ·
  have t1:decide ((4096:Int)<(n:Int))=true:=decide_eq_true (by omega)
  have HNO:Hid (∀ b,¬ IsBun l b):=fun b hb=>by have:=hb.2.2.2.2;rw [HR.out.1] at this;omega
  clear hbig
  go_enter Tryz.func139,Tryz.ntmps139
  go_wp2_with (first
   | (go_at_call 142;refine (CN.out _ _).mono ?_;rintro e w1 ⟨rfl,rfl⟩)
   | (refine wpList_st18 rfl 73 (.tmp 2) (.tmp 13) rfl _ rfl rfl _ _ (HR0.out _ HW0.out) info_bun rfl rfl ?_;intro W' hrow' _ _ hbel _;have HWB:=hid (hbel _ _ (HB0.out.trans ((show Below (w.heap.size+1) _ _ from HW0.out).mono (Nat.le_succ _))) nlr);clear hbel)
   | fail)
  exact bodyPost_ret (res_bt Tryz.results139 _ _ rfl hrow' rfl) rfl ⟨HWB.out,.inr ⟨HNO.out,60,_,by decide,fun _=>rfl,rfl⟩⟩
 have t1:decide ((4096:Int)<(n:Int))=false:=decide_eq_false (by omega)
 by_cases h0:n=0
 ·
  have e0:((n:Int)==0)=true:=by rw [h0];rfl
  have HNO:Hid (∀ b,¬ IsBun l b):=fun b hb=>by
   have h1:=hb.2.2.2.1
   have h2:=HR.out.1
   rw [h1,h0] at h2
   simp [bunW] at h2
  clear hbig h0
  go_enter Tryz.func139,Tryz.ntmps139
  go_wp2_with (first
   | (go_at_call 142;refine (CN.out _ _).mono ?_;rintro e w1 ⟨rfl,rfl⟩)
   | (refine wpList_st18 rfl 73 (.tmp 2) (.tmp 24) rfl _ rfl rfl _ _ (HR0.out _ HW0.out) info_bun rfl rfl ?_;intro W' hrow' _ _ hbel _;have HWB:=hid (hbel _ _ (HB0.out.trans ((show Below (w.heap.size+1) _ _ from HW0.out).mono (Nat.le_succ _))) nlr);clear hbel)
   | fail)
  exact bodyPost_ret (res_bt Tryz.results139 _ _ rfl hrow' rfl) rfl ⟨HWB.out,.inr ⟨HNO.out,60,_,by decide,fun _=>rfl,rfl⟩⟩
 have e0:((n:Int)==0)=false:=by simp;omega
 have hi0:(0:Int)<(n:Int):=by omega
 obtain ⟨x0,m,rfl⟩:∃ x0 m,l=x0::m:=by
  match l,HR.out.1 with
  | x0::m,_=>exact ⟨x0,m,rfl⟩
  | [],hh=>exact absurd hh.symm h0
 obtain ⟨b0,o0,rfl,hb0,hcell⟩:=HR.out.2 (by omega)
 have hcx:=(World.cell?_alloc_lt w (.cells #[.int .u64 0,.int .i64 0,.int .i64 0,.string ⟨#[]⟩,.int .u64 0,.int .u64 0,.int .i64 0,.string ⟨#[]⟩,.int .u64 0,.int .u64 0,.int .i64 0,.string ⟨#[]⟩,.int .u64 0,.int .u64 0,.int .u64 0,.int .u64 0,.int .u64 0,.slice none 0 0] 73) ⟨b0,o0,none⟩ (Nat.lt_of_lt_of_le hb0 HH.out.1)).trans (hcell 0 (by omega))
 rw [show (x0::m).getD 0 0=x0 from rfl] at hcx
 by_cases hff:x0=0x9f
 case neg =>
  have hx:x0.toNat≠159:=fun e=>hff (UInt8.toNat_inj.1 e)
  have e1:((x0.toNat:Int)==159)=false:=by simp;omega
  have e2:((x0.toNat:Int) != 159)=true:=by simp;omega
  have HNO:Hid (∀ b,¬ IsBun (x0::m) b):=fun b hb=>by
   have h1:=hb.2.2.2.1
   unfold bunW at h1
   injection h1 with h1
   exact hff h1
  clear hbig h0 hff hcell hb0 hx
  go_enter Tryz.func139,Tryz.ntmps139
  go_wp2_with (first
   | (go_at_call 142;refine (CN.out _ _).mono ?_;rintro e w1 ⟨rfl,rfl⟩)
   | (refine wpList_st18 rfl 73 (.tmp 2) (.tmp 24) rfl _ rfl rfl _ _ (HR0.out _ HW0.out) info_bun rfl rfl ?_;intro W' hrow' _ _ hbel _;have HWB:=hid (hbel _ _ (HB0.out.trans ((show Below (w.heap.size+1) _ _ from HW0.out).mono (Nat.le_succ _))) nlr);clear hbel)
   | fail)
  exact bodyPost_ret (res_bt Tryz.results139 _ _ rfl hrow' rfl) rfl ⟨HWB.out,.inr ⟨HNO.out,60,_,by decide,fun _=>rfl,rfl⟩⟩
 subst hff
 have e1:(((159:UInt8).toNat:Int)==159)=true:=rfl
 have e2:(((159:UInt8).toNat:Int) != 159)=false:=rfl
 obtain ⟨D1,d1,k1,hd1,-,r1⟩:=cut_l (P:=Tryz.prog) 27 5 Tryz.underlying27 size_u8 c HR.out 1 1 rfl (by omega) HH.out.2.2
 rw [show (0x9f::m:List UInt8).drop 1=m from rfl] at r1
 have C1:=hid (ureadP_any S D1 (n - 1) d1 B m (w.alloc (.cells #[.int .u64 0,.int .i64 0,.int .i64 0,.string ⟨#[]⟩,.int .u64 0,.int .u64 0,.int .i64 0,.string ⟨#[]⟩,.int .u64 0,.int .u64 0,.int .i64 0,.string ⟨#[]⟩,.int .u64 0,.int .u64 0,.int .u64 0,.int .u64 0,.int .u64 0,.slice none 0 0] 73)) HWd.out (Nat.le_trans HH.out.1 (le_alloc _ _)) (r1.alloc HH.out.1 _) (by omega) hd1)
 have HLM:Hid (m.length=n - 1):=by show _=_;have:=HR.out.1;simp at this;omega
 have hn1:1≤n:=by omega
 have HBIG:Hid (n≤4096):=by show _≤_;omega
 clear hbig h0 hcell hb0 r1 hd1
 go_enter Tryz.func139,Tryz.ntmps139
 go_wp2_with fail
 refine C1.out.mono ?_
 rintro e w1 ⟨hb,⟨h,N,rfl,hbd,hp,hN⟩|⟨hno,z,s,hz,rfl⟩⟩
 case inr =>
  have HNO:Hid (∀ b,¬ IsBun (0x9f::m) b):=fun b hb=>hno b hb.prim.1
  have B1:=hid (Below.push HW0.out (Nat.le_of_eq HS0.out.symm) hb)
  have HVZ:=hid hz
  clear hb hz hno hcx
  unfold ufl at *
  go_wp2_with (first
   | (refine wpList_st18 rfl 73 (.tmp 4) (.tmp 30) rfl _ rfl rfl _ _ (heap_alloc_new w1 _) info_bun rfl rfl ?_;intro W4 _ _ _ hbel _;have B4:=hid (hbel _ _ (B1.out.alloc (by have:=B1.out.size;have:=HS0.out;omega) _) (by have:=B1.out.size;have:=HS0.out;omega));clear hbel)
   | (refine wpList_st18 rfl 73 (.tmp 2) (.tmp 35) rfl _ rfl rfl _ _ (HR0.out _ B4.out) info_bun rfl rfl ?_;intro W' hrow' _ hoth hbel hsz';have HWB:=hid (hbel _ _ (HB0.out.trans ((show Below (w.heap.size+1) _ _ from B4.out).mono (Nat.le_succ _))) nlr);clear hbel)
   | fail)
  exact bodyPost_ret (res_bt Tryz.results139 _ _ rfl hrow' rfl) rfl ⟨HWB.out,.inr ⟨HNO.out,z,_,HVZ.out,fun hh=>absurd rfl hh,rfl⟩⟩
 have B1:=hid (Below.push HW0.out (Nat.le_of_eq HS0.out.symm) hb)
 have HP:=hid (And.intro hbd hp)
 have HNN:=hid hN
 have hNn:N≤n - 1:=by
  obtain ⟨-,-,mm,hm⟩:=hp
  have:=congrArg List.length hm
  rw [List.length_append,HLM.out] at this
  omega
 have hwr:wrap64 (1+(N:Int))=1+(N:Int):=by unfold wrap64;omega
 obtain ⟨D2,d2,k2,hd2,-,r2⟩:=cut_l (P:=Tryz.prog) 27 5 Tryz.underlying27 size_u8 c HR.out (1+(N:Int)) (1+N) (by omega) (by omega) HH.out.2.2
 rw [show (0x9f::m:List UInt8).drop (1+N)=m.drop N by rw [Nat.add_comm];rfl] at r2
 have HR2:=hid r2
 have HD2:=hid hd2
 have HNn:=hid (And.intro hNn hn1)
 clear hb hbd hp hN hcx r2 hd2 k1
 unfold bunV at *
 go_wp2_with (first
  | (refine wpList_st18 rfl 73 (.tmp 4) (.tmp 30) rfl _ rfl rfl _ _ (heap_alloc_new w1 _) info_bun rfl rfl ?_;intro W4 hrow4 _ _ hbel hsz4;have B4:=hid (hbel _ _ (B1.out.alloc (by have:=B1.out.size;have:=HS0.out;omega) _) (by have:=B1.out.size;have:=HS0.out;omega));have HROW4:=hid hrow4;have HSZ4:Hid (W4.heap.size=w1.heap.size+1):=(by show _=_;rw [hsz4];simp);clear hbel hrow4 hsz4)
  | fail)
 have C2:=hid (ureadBs_any D2 (n - (1+N)) d2 B (m.drop N) W4 (HWd.out.below B4.out (Nat.le_of_eq HS0.out)).laid (by have:=B4.out.size;have:=HS0.out;have:=HH.out.1;omega) (HR2.out.below ((HB0.out.trans (B4.out.mono (Nat.le_succ _))).mono HH.out.1)) (by omega) HD2.out)
 refine C2.out.mono ?_
 rintro e w2 ⟨hb,⟨xs,A5,n5,c5,N2,rest,rfl,hrl,hc5,h16,hok,heq,hN2⟩|⟨hno,z,s,hz,rfl⟩⟩
 case inr =>
  have HNO:Hid (∀ b,¬ IsBun (0x9f::m) b):=fun b hb=>by
   obtain ⟨h1,h2⟩:=hb.prim
   have h3:=HP.out.2.uniq h1
   have h4:primW (h.bun [])=primW b:=by
    have:=congrArg primW h3
    exact this
   rw [← h4,← HNN.out] at h2
   exact hno b.blks [] hb.2.2.1 (blksOk_len (cauU_0.1 hb.1).2.2).2 h2
  have B5:=hid (Below.push B4.out (Nat.le_of_eq HS0.out.symm) hb)
  have HVZ:=hid hz
  clear hb hz hno
  unfold ufl at *
  go_wp2_with (first
   | (refine wpList_st18 rfl 73 (.tmp 2) (.tmp 49) rfl _ rfl rfl _ _ (HR0.out _ B5.out) info_bun rfl rfl ?_;intro W' hrow' _ hoth hbel hsz';have HWB:=hid (hbel _ _ (HB0.out.trans ((show Below (w.heap.size+1) _ _ from B5.out).mono (Nat.le_succ _))) nlr);clear hbel)
   | fail)
  exact bodyPost_ret (res_bt Tryz.results139 _ _ rfl hrow' rfl) rfl ⟨HWB.out,.inr ⟨HNO.out,z,_,HVZ.out,fun hh=>absurd rfl hh,rfl⟩⟩
 have B5:=hid (Below.push B4.out (Nat.le_of_eq HS0.out.symm) hb)
 have HU:Hid (∀ b,IsBun (0x9f::m) b→h.bun xs=b∧rest=[]):=fun b hb=>by
  obtain ⟨h1,h2⟩:=hb.prim
  have h3:=HP.out.2.uniq h1
  have h4:primW (h.bun [])=primW b:=by
   have:=congrArg primW h3
   exact this
  rw [← h4,← HNN.out,heq] at h2
  obtain ⟨h5,h6⟩:=blkWs_uniq hok hb.2.2.1 h2
  refine ⟨?_,h6⟩
  obtain ⟨bf,bc,bd,bs,br,bt,bq,bl,bk⟩:=b
  simp only at h5
  subst h5
  have:=congrArg (fun q:Bun=>{ q with blks:=xs }) h3
  exact this
 have HLD:Hid ((m.drop N).length=n - (1+N)):=by show _=_;rw [List.length_drop,HLM.out];omega
 by_cases hlen:N2=n - (1+N)
 case neg =>
  have e3:((N2:Int)==((n - (1+N):Nat):Int))=false:=by simp;omega
  have e3':((N2:Int) != ((n - (1+N):Nat):Int))=true:=by simp;omega
  have HNO:Hid (∀ b,¬ IsBun (0x9f::m) b):=fun b hb=>by
   have h1:=(HU.out b hb).2
   rw [h1] at heq
   have:=HLD.out
   rw [heq,List.length_append] at this
   simp at this
   omega
  have HVZ:Hid ((60:Int)≠0):=by show _≠_;decide
  generalize n - (1+N)=K at *
  clear hb hrl heq hlen hN2 hok
  go_wp2_with (first
   | (go_at_call 142;refine (CN.out _ _).mono ?_;rintro e w9 ⟨rfl,rfl⟩)
   | (refine wpList_st18 rfl 73 (.tmp 2) (.tmp 55) rfl _ rfl rfl _ _ (HR0.out _ B5.out) info_bun rfl rfl ?_;intro W' hrow' _ hoth hbel hsz';have HWB:=hid (hbel _ _ (HB0.out.trans ((show Below (w.heap.size+1) _ _ from B5.out).mono (Nat.le_succ _))) nlr);clear hbel)
   | fail)
  exact bodyPost_ret (res_bt Tryz.results139 _ _ rfl hrow' rfl) rfl ⟨HWB.out,.inr ⟨HNO.out,60,_,HVZ.out,fun hh=>absurd rfl hh,rfl⟩⟩
 have e3:((N2:Int)==((n - (1+N):Nat):Int))=true:=by simp;omega
 have e3':((N2:Int) != ((n - (1+N):Nat):Int))=false:=by simp;omega
 have hrest:rest=[]:=by
  have:=HLD.out
  rw [heq,List.length_append] at this
  simp at this
  exact List.eq_nil_of_length_eq_zero (by omega)
 subst hrest
 have hrow5:=(hb.block w1.heap.size (by rw [HSZ4.out];exact Nat.lt_succ_self _)).trans HROW4.out
 have x17:=cell_row hrow5 17 rfl
 have f17:=row_free hrow5 17
 have hrow6:=set17 (.slice A5 n5 c5) hrow5
 have hrl6:RdL (mask (lows W4.heap.size) (w2.setCell ⟨w1.heap.size,17,none⟩ (.slice A5 n5 c5))) (w2.setCell ⟨w1.heap.size,17,none⟩ (.slice A5 n5 c5)).heap.size A5 n5 xs :=
  hrl.maskgo nlr (fun p hp u hu=>by rw [World.cell?_setCell_far _ _ _ _ (by have:=HSZ4.out;show ¬ w1.heap.size=p.block;omega)];exact hu) (by simp [World.setCell])
 have hw1:w.heap.size+1≤w1.heap.size:=by have:=B1.out.size;have:=HS0.out;omega
 have B6:Hid (Below (w.heap.size+1) (w.alloc (.cells #[.int .u64 0,.int .i64 0,.int .i64 0,.string ⟨#[]⟩,.int .u64 0,.int .u64 0,.int .i64 0,.string ⟨#[]⟩,.int .u64 0,.int .u64 0,.int .i64 0,.string ⟨#[]⟩,.int .u64 0,.int .u64 0,.int .u64 0,.int .u64 0,.int .u64 0,.slice none 0 0] 73)) (w2.setCell ⟨w1.heap.size,17,none⟩ (.slice A5 n5 c5))):=B5.out.setCell (p:=⟨w1.heap.size,17,none⟩) hw1 _
 have C3:=hid (ucheck_any S h xs A5 n5 c5 _ _ (HWd.out.below B6.out (Nat.le_of_eq HS0.out)) HP.out.1 hrl6.unmask_ nlr hc5)
 unfold bunV at C3
 have HROW6:=hid hrow6
 have HRL6:=hid hrl6
 have HC5:=hid hc5
 have HOK:=hid (And.intro hok heq)
 have HLB:Hid (w.heap.size<W4.heap.size∧w1.heap.size<(w2.setCell ⟨w1.heap.size,17,none⟩ (.slice A5 n5 c5)).heap.size):=⟨by have:=HSZ4.out;omega,by have:=HSZ4.out;have:=hb.size;simp [World.setCell];omega⟩
 generalize n - (1+N)=K at *
 clear hb hrl hok heq hlen hN2 hrow5 hrow6 hrl6 hw1 C2 k2
 go_wp2_with (first
  | (refine wpList_ld18 rfl (.tmp 4) rfl _ rfl _ _ HROW6.out rfl ?_)
  | fail)
 refine C3.out.mono ?_
 rintro e w3 ⟨hb,⟨hcz,rfl⟩|⟨hcz,s,rfl⟩⟩
 case inr =>
  have HNO:Hid (∀ b,¬ IsBun (0x9f::m) b):=fun b hb=>by
   have h1:=(HU.out b hb).1
   rw [h1] at hcz
   exact hcz hb.1
  have HVZ:=hid hcz
  generalize cauU (h.bun xs)=z at *
  have B7:=hid (Below.push B6.out (Nat.le_of_eq HS0.out.symm) hb)
  clear hb hcz x17 f17
  unfold ufl at *
  go_wp2_with (first
   | (refine wpList_st18 rfl 73 (.tmp 2) (.tmp 63) rfl _ rfl rfl _ _ (HR0.out _ B7.out) info_bun rfl rfl ?_;intro W' hrow' _ hoth hbel hsz';have HWB:=hid (hbel _ _ (HB0.out.trans ((show Below (w.heap.size+1) _ _ from B7.out).mono (Nat.le_succ _))) nlr);clear hbel)
   | fail)
  exact bodyPost_ret (res_bt Tryz.results139 _ _ rfl hrow' rfl) rfl ⟨HWB.out,.inr ⟨HNO.out,z,_,HVZ.out,fun hh=>absurd rfl hh,rfl⟩⟩
 have B7:=hid (Below.push B6.out (Nat.le_of_eq HS0.out.symm) hb)
 have HROW7:=hid ((hb.block w1.heap.size HLB.out.2).trans HROW6.out)
 have HRL7:=hid (HRL6.out.maskgo nlr (fun p hp u hu=>(hb.cell (World.block_lt_of_cell? _ _ hu)).trans hu) hb.size)
 have HCZ:=hid hcz
 clear hb hcz x17 f17
 go_wp2_with (first
  | (refine wpList_ld18 rfl (.tmp 4) rfl _ rfl _ _ HROW7.out rfl ?_)
  | (refine wpList_st18 rfl 73 (.tmp 2) (.tmp 65) rfl _ rfl rfl _ _ (HR0.out _ B7.out) info_bun rfl rfl ?_;intro W' hrow' _ hoth hbel hsz';have HWB:=hid (hbel _ _ (HB0.out.trans ((show Below (w.heap.size+1) _ _ from B7.out).mono (Nat.le_succ _))) nlr);clear hbel)
  | fail)
 refine bodyPost_ret (res_bt Tryz.results139 _ _ rfl hrow' rfl) rfl ⟨HWB.out,.inl ⟨h,xs,A5,n5,c5,rfl,HP.out.1,?_,HC5.out,HCZ.out,⟨HP.out.1.flg,HP.out.1.tim,HP.out.1.seq,HP.out.1.lif⟩,HOK.out.1,?_,by rw [HR.out.1];exact HBIG.out⟩⟩
 ·
  exact HRL7.out.maskgo (lo':=w.heap.size) (Nat.le_of_lt HLB.out.1) (fun p hp u hu=>(hoth p (by have:=HLB.out.1;omega)).trans hu) (Nat.le_of_eq hsz'.symm)
 ·
  obtain ⟨-,-,mm,hm⟩:=HP.out.2
  have h1:=HOK.out.2
  rw [HNN.out] at h1
  rw [hm,List.drop_left] at h1
  rw [hm,h1]
  rfl
def DecU (l:List UInt8) (w:World) (e:Ending) (w':World):Prop:=Below w.heap.size w w' ∧
 ((∃ (h:BH) (xs:List Blk) (A:Option Addr) (n c:Nat),e=.returned (.tuple #[bunV h A n c,.int .i64 0])∧h.Bd∧RdL (mask (lows w.heap.size) w') w'.heap.size A n xs∧n≤c∧IsBun l (h.bun xs)) ∨
  ((∀ b,¬ IsBun l b)∧∃ z,z≠0∧(l.head?≠some 0x9f→z=60)∧e=.returned (.tuple #[.agg #[.int .u64 0,.int .i64 0,.int .i64 0,.string ⟨#[]⟩,.int .u64 0,.int .u64 0,.int .i64 0,.string ⟨#[]⟩,.int .u64 0,.int .u64 0,.int .i64 0,.string ⟨#[]⟩,.int .u64 0,.int .u64 0,.int .u64 0,.int .u64 0,.int .u64 0,.slice none 0 0],.int .i64 z])))
end Go.Proofs.YtlecbblmaadpiaaGreatDoor
