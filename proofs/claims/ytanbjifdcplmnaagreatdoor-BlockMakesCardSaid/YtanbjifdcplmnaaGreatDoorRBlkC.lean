/- Text of layer 3. -/
import Derived.Test.YtanbjifdcplmnaaGreatDoorRAsV
import Derived.Test.YtanbjifdcplmnaaGreatDoorRBase
import Derived.Test.YtanbjifdcplmnaaGreatDoorRCborD
import Derived.Test.YtanbjifdcplmnaaGreatDoorRCborE
import Derived.Test.YtanbjifdcplmnaaGreatDoorRCborI
import Derived.Test.YtanbjifdcplmnaaGreatDoorRCborQ
import Derived.Test.YtanbjifdcplmnaaGreatDoorRKCheck
import Derived.Test.YtanbjifdcplmnaaGreatDoorRKHead
import Derived.Test.YtanbjifdcplmnaaGreatDoorRKMake
import Derived.Test.YtanbjifdcplmnaaGreatDoorRNumG
import Derived.Test.YtanbjifdcplmnaaGreatDoorRRfA
import Derived.Test.YtanbjifdcplmnaaGreatDoorRows
import Derived.LaidEql
import Derived.Stop.Asserts
import Derived.RowKitTokens
import Derived.Stop.IfaceNil
namespace Go.Proofs.YtanbjifdcplmnaaGreatDoor
open Go.RowKit

set_option maxRecDepth 100000 in
set_option maxHeartbeats 1000000 in
theorem ctext_any (s : ByteArray) (w : World) (hs : s.size ≤ 140737488355328) :
    Calls Tryz.prog 121 #[.string s] w (GivesI (.mk 3 0 s.data.toList []) w) := by
  obtain ⟨c, W', hrun, hrd, hc, hb, hz⟩ := conv_bytes (w.alloc (.cells #[.int .i64 0, .int .u64 0, .slice none 0 0, .slice none 0 0] 37)) s
  have hz1 : (w.alloc (.cells #[.int .i64 0, .int .u64 0, .slice none 0 0, .slice none 0 0] 37)).heap.size = w.heap.size + 1 := by simp
  rw [hz1] at hrun hrd hb hz
  obtain ⟨⟨z0, z1, z2, z3⟩, f0, f1, f2, f3⟩ := zero_cells hb
  have HRD := Lib.hid hrd
  have HB := Lib.hid hb
  have HZ := Lib.hid hz
  have HS := Lib.hid hs
  clear hrd hb hz hz1 hs
  go_enter Tryz.func121, Tryz.ntmps121
  go_wp2_with fail
  have hsz4 : ((((W'.setCell ⟨w.heap.size, 0, none⟩ (.int .i64 3)).setCell ⟨w.heap.size, 1, none⟩ (.int .u64 0)).setCell ⟨w.heap.size, 2, none⟩ (.slice (some ⟨w.heap.size + 1, 0, none⟩) s.size c)).setCell ⟨w.heap.size, 3, none⟩ (.slice none 0 0)).heap.size = W'.heap.size := by simp [World.setCell]
  refine bodyPost_ret (v := .agg #[.int .i64 3, .int .u64 0, .slice (some ⟨w.heap.size + 1, 0, none⟩) s.size c, .slice none 0 0]) (by simp [results, Tryz.results121, go_sem, z0, z1, z2, z3]) rfl ⟨_, rfl, RdI.mk_data (by decide) hc HS.out ?_, ?_⟩
  · rw [hsz4, HZ.out]
    exact HRD.out.set4 (fun _ b o h => (by cases h; omega))
  · exact below_set4 (((Below.refl _ _).alloc (Nat.le_refl _) _).trans (HB.out.mono (Nat.le_succ _))) (Nat.le_refl _)

end Go.Proofs.YtanbjifdcplmnaaGreatDoor
/- In the place of EidA where the whole of layer 3 lies in the dump (imports alone). -/
/- What write and writeAll of layer 3 return, of every right item: its bytes behind those that were there. -/
namespace Go.Proofs.YtanbjifdcplmnaaGreatDoor
open Go.RowKit

/-- Between two worlds nothing but v's own block was turned, and v' lies there, or is new. -/
structure Run (v : Value) (w : World) (v' : Value) (w' : World) : Prop where
  grown : w.grownBy w' v.ownBlock
  own : v'.ownBlock = v.ownBlock ∨ ∃ k, v'.ownBlock = some k ∧ w.heap.size ≤ k
section
variable {v v1 v2 : Value} {w w1 w2 : World} {base : Nat} {t : TypeId} {l : List UInt8}
theorem Run.refl (v : Value) (w : World) : Run v w v w := ⟨World.grownBy.refl w _, .inl rfl⟩
theorem Run.trans (h : Run v w v1 w1) (k : Run v1 w1 v2 w2) : Run v w v2 w2 := by
  refine ⟨⟨k.grown.os.trans h.grown.os, k.grown.tape.trans h.grown.tape, k.grown.output.trans h.grown.output, Nat.le_trans h.grown.size k.grown.size, fun i hi hne => ?_⟩, ?_⟩
  · refine (k.grown.block i (Nat.lt_of_lt_of_le hi h.grown.size) (fun e => ?_)).trans (h.grown.block i hi hne)
    rcases h.own with ho | ⟨q, ho, hq⟩
    · exact hne (e.trans ho)
    · rw [ho] at e; injection e with e; omega
  · rcases k.own with ko | ⟨q, ko, hq⟩
    · rcases h.own with ho | ⟨q, ho, hq⟩
      · exact .inl (ko.trans ho)
      · exact .inr ⟨q, ko.trans ho, hq⟩
    · exact .inr ⟨q, ko, Nat.le_trans h.grown.size hq⟩
theorem Run.quiet (h : Run v w v1 w1) (hb : Below w1.heap.size w1 w2) : Run v w v1 w2 :=
  h.trans ⟨⟨hb.os, hb.tape, hb.output, hb.size, fun k hk _ => hb.block k hk⟩, .inl rfl⟩
theorem Run.alloc (h : Run v w v1 w1) (o : Obj) : Run v w v1 (w1.alloc o) := h.quiet ((Below.refl _ _).alloc (Nat.le_refl _) o)
theorem Run.drew (h : Run v w v1 w1) : Run v w v1 w1.drew := h.quiet ((Below.refl _ _).drew)
theorem Run.below (h : Run v w v1 w1) (ho : Ob w base t v l) (hbase : base ≤ w.heap.size) : Below base w w1 :=
  ⟨h.grown.os, h.grown.tape, h.grown.output, h.grown.size, fun k hk => h.grown.block k (by omega) (fun e => by have := (World.ownsRow.lt ho k e.symm).1; omega)⟩
theorem Run.cell (h : Run v w v1 w1) {p : Addr} (hp : p.block < w.heap.size) (hne : v.ownBlock ≠ some p.block) : w1.cell? p = w.cell? p :=
  World.cell?_of_block (w := w) (h.grown.block p.block hp (fun e => hne e.symm))
theorem Run.ne (h : Run v w v1 w1) {k : Nat} (hk : k < w.heap.size) (hne : v.ownBlock ≠ some k) : v1.ownBlock ≠ some k := fun e => by
  rcases h.own with ho | ⟨q, ho, hq⟩
  · exact hne (ho.symm.trans e)
  · rw [ho] at e; injection e with e; omega
end

/-- A call gives back a slice of its caller's own that reads as l, and turns nothing else. -/
def GivesW (t : TypeId) (base : Nat) (vb : Value) (l : List UInt8) (w : World) (e : Ending) (w' : World) : Prop := ∃ v, e = .returned v ∧ Ob w' base t v l ∧ Run vb w v w'
/-- The call of write on each smaller item. -/
def CWriteIH (m : Nat) : Prop := ∀ (x : Itm) (v vb : Value) (lb : List UInt8) (w : World) (base : Nat), par x < m → right x = true → lb.length + (wri x).length ≤ 140737488355328 → base ≤ w.heap.size → RdI w base v x → Ob w base 5 vb lb →
    Calls Tryz.prog 55 #[vb, v] w (GivesW 5 base vb (lb ++ wri x) w)

section
variable {P : Program} {w : World}
/-- append onto an own slice, with what stays besides. -/
theorem wpList_appR {ops : Array Oper} {rest : List Oper} {o : Oper} {a : Act} {Q : Exit → Act → World → Prop} (hgd : o.guard = none) (s x : Operand) (t : TypeId)
    (ho : o.op = .call { callee := .builtin .append, args := #[s, x], argTypes := #[t, t] })
    (base : Nat) (e : TypeId) (ht : P.underlying t = some (.slice e)) (hinfo : (P.info? e).map (fun i => (i.zero, i.size, i.bytes)) = some (some (.int .u8 0), 1, 1))
    (v : Value) (l : List UInt8) (hs : a.eval s = v) (hown : Ob w base e v l) (B : Nat) (A : Option Addr) (m c : Nat) (news : List UInt8) (hx : a.eval x = .slice A m c) (hr : Rd w B A m news)
    (hbound : l.length + m ≤ 140737488355328) (hbase : base ≤ w.heap.size)
    (h : ∀ v' w', Ob w' base e v' (l ++ news) → Run v w v' w' → wpList P ops Q rest (a.put o.dst v') w') : wpList P ops Q (o :: rest) a w :=
  wpList_app hgd s x t ho base e ht hinfo v l hs hown B A m c news hx hr hbound hbase fun v' w' h1 h2 h3 =>
    h v' w' h1 ⟨h2, h3.imp id fun e => ⟨_, e, Nat.le_refl _⟩⟩
/-- The same at a step of a region that draws its order. -/
theorem step_appR {ops : Array Oper} {o : Oper} {a : Act} {K : Act → World → Prop} {Q : Exit → Act → World → Prop} {E : Prop} (hgd : o.guard = none) (s x : Operand) (t : TypeId)
    (ho : o.op = .call { callee := .builtin .append, args := #[s, x], argTypes := #[t, t] })
    (base : Nat) (e : TypeId) (ht : P.underlying t = some (.slice e)) (hinfo : (P.info? e).map (fun i => (i.zero, i.size, i.bytes)) = some (some (.int .u8 0), 1, 1))
    (v : Value) (l : List UInt8) (hs : a.eval s = v) (hown : Ob w base e v l) (B : Nat) (A : Option Addr) (m c : Nat) (news : List UInt8) (hx : a.eval x = .slice A m c) (hr : Rd w B A m news)
    (hbound : l.length + m ≤ 140737488355328) (hbase : base ≤ w.heap.size)
    (h : ∀ v' w', Ob w' base e v' (l ++ news) → Run v w v' w' → K (a.put o.dst v') w') : if Region.wanted o (yielded ops a.tmps) = true then Oper.wp P o a w K Q else E := by
  have hw : Region.wanted o (yielded ops a.tmps) = true := by simp [Region.wanted, hgd]
  rw [if_pos hw]
  obtain ⟨v', w', hrun, h2, h3, h4⟩ := run_app (P := P) w base t o.type e ht hinfo v l hown B A m c news hr hbound hbase
  unfold Oper.wp execOp
  simp only [ho, resolve, invoke, builtin, Sem.run_bind, Sem.run_pure, Result.andThen_ok, List.map_toArray, List.map_cons, List.map_nil, hs, hx, hrun]
  exact h v' w' h2 ⟨h3, h4.imp id fun e => ⟨_, e, Nat.le_refl _⟩⟩
end

set_option maxRecDepth 100000 in
set_option maxHeartbeats 4000000 in
theorem cwriteAll (m N cl base : Nat) (AL : Option Addr) (l : List Itm) (vb : Value) (lb : List UInt8) (w : World) (hm : pars l < m) (hbase : base ≤ w.heap.size) (hlen : lb.length + (wrs l).length ≤ 140737488355328) (hrt : rights l = true) (h5 : N ≤ cl ∧ N ≤ 140737488355328)
    (IH : Hid (CWriteIH m)) (H7 : Hid (0 < N → ∃ b o, AL = some ⟨b, o, none⟩ ∧ b < base ∧ RdIs w base b o l)) (HL : Hid (l.length = N)) (ho : Ob w base 5 vb lb) :
    Calls Tryz.prog 81 #[vb, .slice AL N cl] w (GivesW 5 base vb (lb ++ wrs l) w) := by
  have HO := Lib.hid ho
  have HRT := Lib.hid hrt
  have HLEN := Lib.hid hlen
  clear ho hrt hlen
  go_enter Tryz.func81, Tryz.ntmps81
  go_wp2_with fail
  go_loopw [0, 9] (fun bv i wr => ∃ j : Nat, j ≤ N ∧ i = .int .i64 j ∧ Hid (Ob wr base 5 bv (lb ++ wrs (l.take j))) ∧ Hid (Run vb w bv wr)) (fun _ i _ => N - (intOf i).toNat)
  case atStart => exact ⟨0, Nat.zero_le _, rfl, by show Ob _ _ _ _ _; rw [List.take_zero, wrs, List.append_nil]; exact HO.out, Run.refl _ _⟩
  case round =>
    obtain ⟨j, hj, rfl, hob, hrun⟩ := hrel
    have hbel := Lib.hid (hrun.out.below HO.out hbase)
    by_cases hlt : j < N
    · obtain ⟨b, o, rfl, hb, hs⟩ := H7.out (by omega)
      have hjl : j < l.length := by rw [HL.out]; exact hlt
      obtain ⟨c0, c1, c2, c3, g0, g1, g2, g3, gx⟩ := hs.get j hjl
      have e0 : wr.cell? ⟨b, o + j * 4, none⟩ = some c0 := (hbel.out.cell (p := ⟨b, o + j * 4, none⟩) hb).trans g0
      have e1 : wr.cell? ⟨b, o + j * 4 + 1, none⟩ = some c1 := (hbel.out.cell (p := ⟨b, o + j * 4 + 1, none⟩) hb).trans g1
      have e2 : wr.cell? ⟨b, o + j * 4 + 2, none⟩ = some c2 := (hbel.out.cell (p := ⟨b, o + j * 4 + 2, none⟩) hb).trans g2
      have e3 : wr.cell? ⟨b, o + j * 4 + 3, none⟩ = some c3 := (hbel.out.cell (p := ⟨b, o + j * 4 + 3, none⟩) hb).trans g3
      have hz : base ≤ wr.heap.size := Nat.le_trans hbase hbel.out.size
      have htk := wrs_take l j hjl
      have htl := wrs_take_len l (j + 1)
      have hpg : par (l[j]'hjl) ≤ pars l := par_get _
      rw [htk, List.length_append] at htl
      have hll := HLEN.out
      obtain ⟨k1, n1, A1, nd1, cd1, AL1, nl1, cl1, hf⟩ := gx.form
      injection hf with hf
      simp only [Array.mk.injEq, List.cons.injEq, and_true] at hf
      obtain ⟨rfl, rfl, rfl, rfl⟩ := hf
      have C1 := Lib.hid (IH.out (l[j]'hjl) _ _ (lb ++ wrs (l.take j)) (wr.alloc (.cells #[.int .i64 k1, .int .u64 (n1 : Int), .slice A1 nd1 cd1, .slice AL1 nl1 cl1] 37)) base (by omega) (right_get HRT.out hjl) (by rw [List.length_append]; omega) (Nat.le_trans hz (le_alloc _ _)) ((gx.below hbel.out).alloc hz _) (hob.out.alloc _))
      have HTK := Lib.hid htk
      generalize wri (l[j]'hjl) = WX at *
      clear g0 g1 g2 g3 gx hs htk htl hll hpg
      go_wp2_with fail
      refine C1.out.mono ?_
      rintro e w2 ⟨v2, rfl, ho2, hb2⟩
      have HO2 := Lib.hid ho2
      have HB2 := Lib.hid ((hrun.out.alloc _).trans hb2)
      clear ho2 hb2 e0 e1 e2 e3
      go_wp2_with fail
      go_roundw
      case rel => exact ⟨j + 1, by omega, by go_num, by show Ob _ _ _ _ _; rw [HTK.out, ← List.append_assoc]; exact HO2.out, HB2.out⟩
      case measure => simp [intOf]; omega
    · obtain rfl : j = N := by omega
      have hfin := hob.out
      rw [List.take_of_length_le (by rw [HL.out]; exact Nat.le_refl _)] at hfin
      have HF := Lib.hid hfin
      clear hfin
      go_wp2_with fail
      go_ret
      exact ⟨_, rfl, HF.out, hrun.out⟩

/-- Where a slice's own block lies. -/
theorem Ob.apart {w : World} {base : Nat} {t : TypeId} {v : Value} {l : List UInt8} (h : Ob w base t v l) : v.ownBlock ≠ some w.heap.size := fun e => by
  have := (World.ownsRow.lt h _ e).2
  omega
theorem headK (k : Int) (n : Nat) (h0 : 0 ≤ k) (h7 : k ≤ 7) : headB k n = hd k.toNat n := by rw [headB, if_neg (by omega)]

set_option maxRecDepth 100000 in
set_option maxHeartbeats 4000000 in
theorem cwrite_uint (n nd cd N cl base : Nat) (A AL : Option Addr) (vb : Value) (lb : List UInt8) (w : World) (hn : n < 18446744073709551616) (hbase : base ≤ w.heap.size) (hlen : lb.length + (hd 0 n).length ≤ 140737488355328) (ho : Ob w base 5 vb lb) :
    Calls Tryz.prog 55 #[vb, .agg #[.int .i64 0, .int .u64 (n : Int), .slice A nd cd, .slice AL N cl]] w (GivesW 5 base vb (lb ++ hd 0 n) w) := by
  have C1 := Lib.hid (fun W => khead_any 0 n W (by decide) hn)
  rw [headK 0 n (by decide) (by decide), show (0 : Int).toNat = 0 from rfl] at C1
  have HO := Lib.hid (ho.alloc (.cells #[.int .i64 0, .int .u64 (n : Int), .slice A nd cd, .slice AL N cl] 37))
  generalize hd 0 n = H at *
  have HLEN := Lib.hid hlen
  have HBS := Lib.hid hbase
  clear ho hlen hbase
  go_enter Tryz.func55, Tryz.ntmps55
  go_wp2_with fail
  refine (C1.out _).mono ?_
  rintro e w1 ⟨v, rfl, ho1, hb1⟩
  obtain ⟨A2, c2, rfl, hc2, hm2, hr2⟩ := ho1.rd
  have HR := Lib.hid hr2
  have HB := Lib.hid hb1
  have hz1 : w.heap.size + 1 ≤ w1.heap.size := by have := hb1.size; simpa using this
  have HZ := Lib.hid (Nat.le_trans HBS.out (Nat.le_of_succ_le hz1))
  clear ho1 hr2 hb1
  go_wp2_with (first
    | (at_builtin; refine wpList_appR rfl (.tmp 9) (.tmp 14) 22 rfl base 5 Tryz.underlying22 info_u8 vb lb rfl (HO.out.below HB.out) _ _ _ _ H rfl HR.out HLEN.out HZ.out ?_; intro v3 w3 ho3 hb3; have O3 := Lib.hid ho3; have B3 := Lib.hid hb3; clear ho3 hb3)
    | fail)
  go_ret
  exact ⟨_, rfl, O3.out, (((Run.refl vb w).alloc _).quiet HB.out).trans B3.out⟩

set_option maxRecDepth 100000 in
set_option maxHeartbeats 4000000 in
theorem cwrite_text2 (nd cd N cl base : Nat) (A AL : Option Addr) (d : List UInt8) (vb : Value) (lb : List UInt8) (w : World) (hnd : nd ≤ 140737488355328) (hrd : Rd w base A nd d) (hbase : base ≤ w.heap.size) (hlen : lb.length + (hd 2 d.length ++ d).length ≤ 140737488355328) (ho : Ob w base 5 vb lb) :
    Calls Tryz.prog 55 #[vb, .agg #[.int .i64 2, .int .u64 0, .slice A nd cd, .slice AL N cl]] w (GivesW 5 base vb (lb ++ (hd 2 d.length ++ d)) w) := by
  rw [hrd.1] at hlen ⊢
  have C1 := Lib.hid (fun W => khead_any 2 nd W (by decide) (by omega))
  rw [headK 2 nd (by decide) (by decide), show (2 : Int).toNat = 2 from rfl] at C1
  have HO := Lib.hid (ho.alloc (.cells #[.int .i64 2, .int .u64 0, .slice A nd cd, .slice AL N cl] 37))
  have HAP := Lib.hid ho.apart
  have HRD := Lib.hid (hrd.alloc hbase (.cells #[.int .i64 2, .int .u64 0, .slice A nd cd, .slice AL N cl] 37))
  have hdl := hrd.1
  rw [List.length_append, hdl] at hlen
  generalize hd 2 nd = H at *
  have HLEN := Lib.hid hlen
  have HBS := Lib.hid hbase
  clear ho hlen hbase hrd hdl
  go_enter Tryz.func55, Tryz.ntmps55
  go_wp2_with fail
  refine (C1.out _).mono ?_
  rintro e w1 ⟨v, rfl, ho1, hb1⟩
  obtain ⟨A2, c2, rfl, hc2, hm2, hr2⟩ := ho1.rd
  have HR := Lib.hid hr2
  have HB := Lib.hid hb1
  have hz1 : w.heap.size + 1 ≤ w1.heap.size := by have := hb1.size; simpa using this
  have HZ := Lib.hid (Nat.le_trans HBS.out (Nat.le_of_succ_le hz1))
  have HZ1 := Lib.hid hz1
  have q2 : w1.cell? ⟨w.heap.size, 2, none⟩ = some (.slice A nd cd) := (hb1.cell (p := ⟨w.heap.size, 2, none⟩) (by simp)).trans (by simp)
  clear ho1 hr2 hb1 hz1
  go_wp2_with (first
    | (at_builtin; refine wpList_appR rfl (.tmp 19) (.tmp 26) 22 rfl base 5 Tryz.underlying22 info_u8 vb lb rfl (HO.out.below HB.out) _ _ _ _ H rfl HR.out (by have := HLEN.out; omega) HZ.out ?_; intro v3 w3 ho3 hb3; have O3 := Lib.hid ho3; have B3 := Lib.hid hb3; have q3 := (hb3.cell (p := ⟨w.heap.size, 2, none⟩) HZ1.out HAP.out).trans q2; clear ho3 hb3 q2)
    | (at_builtin; refine wpList_appR rfl (.tmp 28) (.tmp 30) 22 rfl base 5 Tryz.underlying22 info_u8 v3 (lb ++ H) rfl O3.out base A nd cd d rfl ((HRD.out.below (HB.out.mono (Nat.le_trans HBS.out (le_alloc _ _)))).below (B3.out.below (HO.out.below HB.out) HZ.out)) (by have := HLEN.out; rw [List.length_append]; omega) (Nat.le_trans HZ.out B3.out.grown.size) ?_; intro v4 w4 ho4 hb4; have O4 := Lib.hid ho4; have B4 := Lib.hid hb4; clear ho4 hb4)
    | fail)
  go_ret
  exact ⟨_, rfl, by rw [← List.append_assoc]; exact O4.out, ((((Run.refl vb w).alloc _).quiet HB.out).trans B3.out).trans B4.out⟩

set_option maxRecDepth 100000 in
set_option maxHeartbeats 4000000 in
theorem cwrite_text3 (nd cd N cl base : Nat) (A AL : Option Addr) (d : List UInt8) (vb : Value) (lb : List UInt8) (w : World) (hnd : nd ≤ 140737488355328) (hrd : Rd w base A nd d) (hbase : base ≤ w.heap.size) (hlen : lb.length + (hd 3 d.length ++ d).length ≤ 140737488355328) (ho : Ob w base 5 vb lb) :
    Calls Tryz.prog 55 #[vb, .agg #[.int .i64 3, .int .u64 0, .slice A nd cd, .slice AL N cl]] w (GivesW 5 base vb (lb ++ (hd 3 d.length ++ d)) w) := by
  rw [hrd.1] at hlen ⊢
  have C1 := Lib.hid (fun W => khead_any 3 nd W (by decide) (by omega))
  rw [headK 3 nd (by decide) (by decide), show (3 : Int).toNat = 3 from rfl] at C1
  have HO := Lib.hid (ho.alloc (.cells #[.int .i64 3, .int .u64 0, .slice A nd cd, .slice AL N cl] 37))
  have HAP := Lib.hid ho.apart
  have HRD := Lib.hid (hrd.alloc hbase (.cells #[.int .i64 3, .int .u64 0, .slice A nd cd, .slice AL N cl] 37))
  have hdl := hrd.1
  rw [List.length_append, hdl] at hlen
  generalize hd 3 nd = H at *
  have HLEN := Lib.hid hlen
  have HBS := Lib.hid hbase
  clear ho hlen hbase hrd hdl
  go_enter Tryz.func55, Tryz.ntmps55
  go_wp2_with fail
  refine (C1.out _).mono ?_
  rintro e w1 ⟨v, rfl, ho1, hb1⟩
  obtain ⟨A2, c2, rfl, hc2, hm2, hr2⟩ := ho1.rd
  have HR := Lib.hid hr2
  have HB := Lib.hid hb1
  have hz1 : w.heap.size + 1 ≤ w1.heap.size := by have := hb1.size; simpa using this
  have HZ := Lib.hid (Nat.le_trans HBS.out (Nat.le_of_succ_le hz1))
  have HZ1 := Lib.hid hz1
  have q2 : w1.cell? ⟨w.heap.size, 2, none⟩ = some (.slice A nd cd) := (hb1.cell (p := ⟨w.heap.size, 2, none⟩) (by simp)).trans (by simp)
  clear ho1 hr2 hb1 hz1
  go_wp2_with (first
    | (at_builtin; refine wpList_appR rfl (.tmp 19) (.tmp 26) 22 rfl base 5 Tryz.underlying22 info_u8 vb lb rfl (HO.out.below HB.out) _ _ _ _ H rfl HR.out (by have := HLEN.out; omega) HZ.out ?_; intro v3 w3 ho3 hb3; have O3 := Lib.hid ho3; have B3 := Lib.hid hb3; have q3 := (hb3.cell (p := ⟨w.heap.size, 2, none⟩) HZ1.out HAP.out).trans q2; clear ho3 hb3 q2)
    | (at_builtin; refine wpList_appR rfl (.tmp 28) (.tmp 30) 22 rfl base 5 Tryz.underlying22 info_u8 v3 (lb ++ H) rfl O3.out base A nd cd d rfl ((HRD.out.below (HB.out.mono (Nat.le_trans HBS.out (le_alloc _ _)))).below (B3.out.below (HO.out.below HB.out) HZ.out)) (by have := HLEN.out; rw [List.length_append]; omega) (Nat.le_trans HZ.out B3.out.grown.size) ?_; intro v4 w4 ho4 hb4; have O4 := Lib.hid ho4; have B4 := Lib.hid hb4; clear ho4 hb4)
    | fail)
  go_ret
  exact ⟨_, rfl, by rw [← List.append_assoc]; exact O4.out, ((((Run.refl vb w).alloc _).quiet HB.out).trans B3.out).trans B4.out⟩

set_option maxRecDepth 100000 in
set_option maxHeartbeats 4000000 in
theorem cwrite_arr4 (m nd cd N cl base : Nat) (A AL : Option Addr) (l : List Itm) (vb : Value) (lb : List UInt8) (w : World) (hm : pars l < m) (hbase : base ≤ w.heap.size) (hlen : lb.length + (hd 4 N ++ wrs l).length ≤ 140737488355328) (hrt : rights l = true) (h5 : N ≤ cl ∧ N ≤ 140737488355328)
    (IH : Hid (CWriteIH m)) (H7 : 0 < N → ∃ b o, AL = some ⟨b, o, none⟩ ∧ b < base ∧ RdIs w base b o l) (HL : Hid (l.length = N)) (ho : Ob w base 5 vb lb) :
    Calls Tryz.prog 55 #[vb, .agg #[.int .i64 4, .int .u64 0, .slice A nd cd, .slice AL N cl]] w (GivesW 5 base vb (lb ++ (hd 4 N ++ wrs l)) w) := by
  have C1 := Lib.hid (fun W => khead_any 4 N W (by decide) (by omega))
  rw [headK 4 N (by decide) (by decide), show (4 : Int).toNat = 4 from rfl] at C1
  have HO := Lib.hid (ho.alloc (.cells #[.int .i64 4, .int .u64 0, .slice A nd cd, .slice AL N cl] 37))
  have HAP := Lib.hid ho.apart
  rw [List.length_append] at hlen
  generalize hd 4 N = H at *
  have HO0 := Lib.hid ho
  have C2 := Lib.hid (fun (W : World) v (hr : Run vb w v W) (ho : Ob W base 5 v (lb ++ H)) => have hb := hr.below HO0.out hbase; cwriteAll m N cl base AL l v (lb ++ H) W hm (Nat.le_trans hbase hb.size) (by rw [List.length_append]; omega) hrt h5 IH (fun h0 => by
    obtain ⟨b, o, ea, hb2, hs⟩ := H7 h0
    exact ⟨b, o, ea, hb2, hs.below hb2 hb⟩) HL ho)
  generalize wrs l = L at *
  have HLEN := Lib.hid hlen
  have HBS := Lib.hid hbase
  clear ho hlen hbase H7 hm hrt
  go_enter Tryz.func55, Tryz.ntmps55
  go_wp2_with fail
  refine (C1.out _).mono ?_
  rintro e w1 ⟨v, rfl, ho1, hb1⟩
  obtain ⟨A2, c2, rfl, hc2, hm2, hr2⟩ := ho1.rd
  have HR := Lib.hid hr2
  have HB := Lib.hid hb1
  have hz1 : w.heap.size + 1 ≤ w1.heap.size := by have := hb1.size; simpa using this
  have HZ := Lib.hid (Nat.le_trans HBS.out (Nat.le_of_succ_le hz1))
  have HZ1 := Lib.hid hz1
  have q2 : w1.cell? ⟨w.heap.size, 3, none⟩ = some (.slice AL N cl) := (hb1.cell (p := ⟨w.heap.size, 3, none⟩) (by simp)).trans (by simp)
  clear ho1 hr2 hb1 hz1
  go_wp2_with (first
    | (at_builtin; refine wpList_appR rfl (.tmp 43) (.tmp 50) 22 rfl base 5 Tryz.underlying22 info_u8 vb lb rfl (HO.out.below HB.out) _ _ _ _ H rfl HR.out (by have := HLEN.out; omega) HZ.out ?_; intro v3 w3 ho3 hb3; have O3 := Lib.hid ho3; have B3 := Lib.hid ((((Run.refl vb w).alloc _).quiet HB.out).trans hb3); have q3 := (hb3.cell (p := ⟨w.heap.size, 3, none⟩) HZ1.out HAP.out).trans q2; clear ho3 hb3 q2)
    | fail)
  refine (C2.out _ _ B3.out O3.out).mono ?_
  rintro e w4 ⟨v4, rfl, ho4, hb4⟩
  have O4 := Lib.hid ho4
  have B4 := Lib.hid (B3.out.trans hb4)
  clear ho4 hb4
  go_wp2_with fail
  go_ret
  exact ⟨_, rfl, by rw [← List.append_assoc]; exact O4.out, B4.out⟩

set_option maxRecDepth 100000 in
set_option maxHeartbeats 4000000 in
theorem cwrite_arr5 (m nd cd N cl base : Nat) (A AL : Option Addr) (l : List Itm) (vb : Value) (lb : List UInt8) (w : World) (hm : pars l < m) (hbase : base ≤ w.heap.size) (hlen : lb.length + (0x9f :: (wrs l ++ [0xff])).length ≤ 140737488355328) (hrt : rights l = true) (h5 : N ≤ cl ∧ N ≤ 140737488355328)
    (IH : Hid (CWriteIH m)) (H7 : 0 < N → ∃ b o, AL = some ⟨b, o, none⟩ ∧ b < base ∧ RdIs w base b o l) (HL : Hid (l.length = N)) (ho : Ob w base 5 vb lb) :
    Calls Tryz.prog 55 #[vb, .agg #[.int .i64 5, .int .u64 0, .slice A nd cd, .slice AL N cl]] w (GivesW 5 base vb (lb ++ (0x9f :: (wrs l ++ [0xff]))) w) := by
  obtain ⟨H, hH⟩ : ∃ H : List UInt8, H = [0x9f] := ⟨_, rfl⟩
  have eq : lb ++ (0x9f :: (wrs l ++ [0xff])) = (lb ++ H ++ wrs l) ++ [0xff] := by rw [hH]; simp
  have hH1 : H.length = 1 := by rw [hH]; rfl
  rw [eq]
  simp only [List.length_cons, List.length_append, List.length_nil] at hlen
  have HO := Lib.hid (ho.alloc (.cells #[.int .i64 5, .int .u64 0, .slice A nd cd, .slice AL N cl] 37))
  have HAP := Lib.hid ho.apart
  have HH := Lib.hid hH
  have HO0 := Lib.hid ho
  have C2 := Lib.hid (fun (W : World) v (hr : Run vb w v W) (ho : Ob W base 5 v (lb ++ H)) => have hb := hr.below HO0.out hbase; cwriteAll m N cl base AL l v (lb ++ H) W hm (Nat.le_trans hbase hb.size) (by rw [List.length_append]; omega) hrt h5 IH (fun h0 => by
    obtain ⟨b, o, ea, hb2, hs⟩ := H7 h0
    exact ⟨b, o, ea, hb2, hs.below hb2 hb⟩) HL ho)
  have HL1 := Lib.hid hH1
  generalize wrs l = L at *
  have HLEN := Lib.hid hlen
  have HBS := Lib.hid hbase
  clear ho hlen hbase H7 hm hrt hH hH1 eq
  go_enter Tryz.func55, Tryz.ntmps55
  go_wp2_with fail
  have f3 : (w.alloc (.cells #[.int .i64 5, .int .u64 0, .slice A nd cd, .slice AL N cl] 37)).cell? ⟨w.heap.size, 3, none⟩ = some (.slice AL N cl) := by simp
  have FZ : Hid ((w.alloc (.cells #[.int .i64 5, .int .u64 0, .slice A nd cd, .slice AL N cl] 37)).heap.size = w.heap.size + 1) := (by simp : _ = _)
  have FB := Lib.hid ((Run.refl vb w).alloc (.cells #[.int .i64 5, .int .u64 0, .slice A nd cd, .slice AL N cl] 37))
  generalize w.alloc (.cells #[.int .i64 5, .int .u64 0, .slice A nd cd, .slice AL N cl] 37) = W0 at *
  have hzl : w.heap.size < W0.heap.size := by rw [FZ.out]; exact Nat.lt_succ_self _
  have hzb : base ≤ W0.heap.size := Nat.le_trans HBS.out (Nat.le_of_lt hzl)
  have HZL := Lib.hid hzl
  have HZB := Lib.hid hzb
  have FA := Lib.hid (fun (o : Obj) => (World.cell?_alloc_lt W0.drew o ⟨w.heap.size, 3, none⟩ hzl).trans f3)
  clear hzl hzb
  go_region_held3 (fun W => W.cell? ⟨w.heap.size, 3, none⟩ = some (.slice AL N cl))
    (first
      | (exact f3)
      | (exact FA.out _)
      | (exact q4)
      | (exact q3)
      | fail)
    (first
      | (go_at_call 81; refine (C2.out _ _ B3.out O3.out).mono ?_; rintro e w4 ⟨v4, rfl, ho4, hb4⟩; have O4 := Lib.hid ho4; have B4 := Lib.hid (B3.out.trans hb4); have q4 := (hb4.cell (p := ⟨w.heap.size, 3, none⟩) N3.out.1 N3.out.2).trans q3; clear ho4 hb4)
      | (refine step_appR (by rfl) (.tmp 34) (.tmp 35) 22 (by rfl) base 5 Tryz.underlying22 info_u8 vb lb (by rfl) (HO.out.drew.alloc _) (W0.heap.size + 1) (some ⟨W0.heap.size, 0, none⟩) 1 1 H (by rfl) (Rd.lit W0.drew _ (by simp) H 5 #[.int .u8 159] (by rw [HH.out]; rfl) 1 HL1.out) (by have := HLEN.out; omega) (Nat.le_trans HZB.out (le_alloc W0.drew _)) ?_; intro v3 w3 ho3 hb3; have O3 := Lib.hid ho3; have B3 := Lib.hid ((FB.out.drew.alloc _).trans hb3); have q3 := (hb3.cell (p := ⟨w.heap.size, 3, none⟩) (Nat.lt_of_lt_of_le HZL.out (le_alloc W0.drew _)) HAP.out).trans (FA.out _); have N3 := Lib.hid (And.intro (Nat.lt_of_lt_of_le (Nat.lt_of_lt_of_le HZL.out (le_alloc W0.drew _)) hb3.grown.size) (hb3.ne (k := w.heap.size) (Nat.lt_of_lt_of_le HZL.out (le_alloc W0.drew _)) HAP.out)); clear ho3 hb3)
      | fail)
  have HZ4 := Lib.hid (Nat.le_trans HBS.out B4.out.grown.size)
  go_wp2_with (first
    | (at_builtin; refine wpList_appR rfl (.tmp 40) (.tmp 41) 22 rfl base 5 Tryz.underlying22 info_u8 v4 (lb ++ H ++ L) rfl (O4.out.alloc _) (w4.heap.size + 1) (some ⟨w4.heap.size, 0, none⟩) 1 1 [255] rfl (Rd.lit w4 _ rfl [255] 5 #[.int .u8 255] rfl 1 rfl) (by have := HLEN.out; have := HL1.out; simp only [List.length_append]; omega) (Nat.le_trans HZ4.out (le_alloc _ _)) ?_; intro v5 w5 ho5 hb5; have O5 := Lib.hid ho5; have B5 := Lib.hid ((B4.out.alloc _).trans hb5); clear ho5 hb5)
    | fail)
  go_ret
  exact ⟨_, rfl, O5.out, B5.out⟩

theorem own_k {k : Int} {n : Nat} {d : List UInt8} {l : List Itm} (h : own k n d l = true) : (k = 0 ∧ d = [] ∧ l = []) ∨ ((k = 2 ∨ k = 3) ∧ n = 0 ∧ l = []) ∨ ((k = 4 ∨ k = 5) ∧ n = 0 ∧ d = []) := by
  unfold own at h
  by_cases h0 : k = 0
  · rw [if_pos h0] at h; simp at h; exact .inl ⟨h0, h.1, h.2⟩
  rw [if_neg h0] at h
  by_cases h2 : k = 2
  · rw [if_pos h2] at h; simp at h; exact .inr (.inl ⟨.inl h2, h.1, h.2⟩)
  rw [if_neg h2] at h
  by_cases h3 : k = 3
  · rw [if_pos h3] at h; simp at h; exact .inr (.inl ⟨.inr h3, h.1, h.2.1⟩)
  rw [if_neg h3] at h
  by_cases h4 : k = 4 ∨ k = 5
  · rw [if_pos h4] at h; simp at h; exact .inr (.inr ⟨h4, h.1, h.2⟩)
  · rw [if_neg h4] at h; cases h

theorem cwrite_n : ∀ m : Nat, CWriteIH m
  | 0 => fun _ _ _ _ _ _ h => absurd h (Nat.not_lt_zero _)
  | m + 1 => by
    rintro ⟨k, n, d, l⟩ v vb lb w base hm hr hlen hbase h ho
    have IH := Lib.hid (cwrite_n m)
    obtain ⟨A, nd, cd, AL, cl, rfl, h1, h2, h3, h4, h5, h7⟩ := h.open
    rw [right, Bool.and_eq_true] at hr
    rw [par] at hm
    rcases own_k hr.1 with ⟨rfl, rfl, rfl⟩ | ⟨hk, rfl, rfl⟩ | ⟨hk, rfl, rfl⟩
    · rw [wri, if_pos rfl] at hlen ⊢
      exact cwrite_uint n nd cd _ cl base A AL vb lb w h2 hbase hlen ho
    · rcases hk with rfl | rfl
      · rw [wri, if_neg (by decide), if_pos (by decide)] at hlen ⊢
        exact cwrite_text2 nd cd _ cl base A AL d vb lb w h3.2 h4 hbase hlen ho
      · rw [wri, if_neg (by decide), if_pos (by decide)] at hlen ⊢
        exact cwrite_text3 nd cd _ cl base A AL d vb lb w h3.2 h4 hbase hlen ho
    · rcases hk with rfl | rfl
      · rw [wri, if_neg (by decide), if_neg (by decide), if_pos rfl] at hlen ⊢
        exact cwrite_arr4 m nd cd l.length cl base A AL l vb lb w (by omega) hbase hlen hr.2 h5 IH h7 rfl ho
      · rw [wri, if_neg (by decide), if_neg (by decide), if_neg (by decide)] at hlen ⊢
        exact cwrite_arr5 m nd cd l.length cl base A AL l vb lb w (by omega) hbase hlen hr.2 h5 IH h7 rfl ho
end Go.Proofs.YtanbjifdcplmnaaGreatDoor
/- What Encode of layer 3 returns. -/
namespace Go.Proofs.YtanbjifdcplmnaaGreatDoor
open Go.RowKit

/-- A call gives back a slice of bytes and a number. -/
def GivesB (l : List UInt8) (c : Int) (w : World) (e : Ending) (w' : World) : Prop := ∃ (A : Option Addr) (n cp : Nat), e = .returned (.tuple #[.slice A n cp, .int .i64 c]) ∧ Rd w' w'.heap.size A n l ∧ n ≤ cp ∧ Below w.heap.size w w'

set_option maxRecDepth 100000 in
set_option maxHeartbeats 2000000 in
theorem cencode_any (x : Itm) (v : Value) (w : World) (B : Nat) (hp : par x ≤ 1000000) (hlen : Fits x → (wri x).length ≤ 140737488355328) (hB : B ≤ w.heap.size) (h : RdI w B v x) (hL : LaidE w) :
    Calls Tryz.prog 38 #[v] w (GivesB (enc x).1 (enc x).2 w) := by
  obtain ⟨k, n, d, l⟩ := x
  have HX := Lib.hid h
  obtain ⟨A, nd, cd, AL, cl, rfl, h1, h2, h3, h4, h5, h7⟩ := h.open
  generalize hX : Itm.mk k n d l = x at *
  clear hX
  have C1 := Lib.hid (fun W (hb : Below w.heap.size w W) => check_any x _ W B hp (Nat.le_trans hB hb.size) (HX.out.below (hb.mono hB)))
  have C2 := Lib.hid (fun z W (hb : Below w.heap.size w W) => number_any z W (hL.below hb hL.lt))
  have C3 := Lib.hid (fun W (hb : Below w.heap.size w W) (hr : right x = true) (hl : (wri x).length ≤ 140737488355328) => cwrite_n (par x + 1) x _ (.slice none 0 0) [] W W.heap.size (Nat.lt_succ_self _) hr (by simpa using hl) (Nat.le_refl _) ((HX.out.below (hb.mono hB)).more (Nat.le_trans hB hb.size)) (Ob.nil_ _ _ _))
  have HLEN := Lib.hid hlen
  have B0 := Lib.hid ((Below.refl w.heap.size w).alloc (Nat.le_refl _) (.cells #[.int .i64 k, .int .u64 (n : Int), .slice A nd cd, .slice AL l.length cl] 37))
  generalize l.length = N at *
  clear h1 h4 h7 h hlen hL
  rcases hr : right x with _ | _
  · rw [show enc x = ([], 2) by unfold enc; rw [if_pos hr]]
    have hv : chkV x = .iface 139 (.agg #[.int .i64 2]) := by unfold chkV; rw [if_pos hr]
    rw [hv] at C1
    clear hr hv
    go_enter Tryz.func38, Tryz.ntmps38
    go_wp2_with fail
    refine (C1.out _ B0.out).mono ?_
    rintro e w1 ⟨rfl, hb1⟩
    have HB1 := Lib.hid (B0.out.trans (hb1.mono B0.out.size))
    clear hb1
    go_wp2_with fail
    refine (C2.out _ _ HB1.out).mono ?_
    rintro e w2 ⟨rfl, hb2⟩
    have HB2 := Lib.hid (HB1.out.trans (hb2.mono HB1.out.size))
    clear hb2
    go_wp2_with fail
    go_ret2
    exact ⟨none, 0, 0, rfl, Rd.nil_, Nat.le_refl _, HB2.out⟩
  · by_cases hd : 8 < dep x ∨ 4096 < par x
    · rw [show enc x = ([], 32) by unfold enc; rw [if_neg (by rw [hr]; decide), if_pos hd]]
      have hv : chkV x = .iface 139 (.agg #[.int .i64 32]) := by unfold chkV; rw [if_neg (by rw [hr]; decide), if_pos hd]
      rw [hv] at C1
      clear hr hv hd
      go_enter Tryz.func38, Tryz.ntmps38
      go_wp2_with fail
      refine (C1.out _ B0.out).mono ?_
      rintro e w1 ⟨rfl, hb1⟩
      have HB1 := Lib.hid (B0.out.trans (hb1.mono B0.out.size))
      clear hb1
      go_wp2_with fail
      refine (C2.out _ _ HB1.out).mono ?_
      rintro e w2 ⟨rfl, hb2⟩
      have HB2 := Lib.hid (HB1.out.trans (hb2.mono HB1.out.size))
      clear hb2
      go_wp2_with fail
      go_ret2
      exact ⟨none, 0, 0, rfl, Rd.nil_, Nat.le_refl _, HB2.out⟩
    · have hf : Fits x := ⟨hr, by omega, by omega⟩
      have hv : chkV x = .nilIface := by unfold chkV; rw [if_neg (by rw [hr]; decide), if_neg hd]
      rw [hv] at C1
      rw [enc_ok hf]
      have HL := Lib.hid (HLEN.out hf)
      have HR := Lib.hid hr
      clear hr hv hd hf
      generalize hWX : wri x = WX at *
      go_enter Tryz.func38, Tryz.ntmps38
      go_wp2_with fail
      refine (C1.out _ B0.out).mono ?_
      rintro e w1 ⟨rfl, hb1⟩
      have HB1 := Lib.hid (B0.out.trans (hb1.mono B0.out.size))
      obtain ⟨q0, q1, q2, q3⟩ := box_cells (to_box hb1)
      clear hb1
      go_wp2_with fail
      refine (C3.out _ HB1.out HR.out HL.out).mono ?_
      rintro e w2 ⟨v, rfl, ho, hr⟩
      rw [List.nil_append] at ho
      obtain ⟨A2, c2, rfl, hc2, hm2, hr2⟩ := ho.rd
      have HR2 := Lib.hid hr2
      have hl2 := ho.rd_.1
      have HB2 := Lib.hid (HB1.out.trans ((hr.below (Ob.nil_ _ w1.heap.size 5) (Nat.le_refl _)).mono HB1.out.size))
      clear ho hr2 hr q0 q1 q2 q3
      go_wp2_with fail
      go_ret2
      exact ⟨A2, _, c2, rfl, HR2.out, hc2, HB2.out⟩
end Go.Proofs.YtanbjifdcplmnaaGreatDoor
/- errors.As at a target whose element is a struct of one number, an error by value: nil gives false; the very type is a hit. After the guide's worked text on errors.As. -/
namespace Go.Proofs.YtanbjifdcplmnaaGreatDoor
open Go.RowKit Go.Extern.Stop Go.Stop Go.Extern

theorem bas_valueOfP (t : Addr) (w : World) : (ReflectliteValue.unpack (.iface 95 (.pointer (some t)))).run Tryz.prog w
    = .ok (.agg #[.pointer (some ⟨6, 95, none⟩), .pointer (some ⟨w.heap.size, 0, none⟩), .int .u64 150]) (w.alloc (.cells #[.pointer (some t)] 95)) := by kernel_rfl
theorem bas_typeP (a : Addr) (w : World) : (ReflectliteValue.methodAny (ReflectliteValue.valueError "reflectlite.Value.Type" 0) (fun t _ _ _ => ReflectliteType.toType t) #[.agg #[.pointer (some ⟨6, 95, none⟩), .pointer (some a), .int .u64 150]]).run Tryz.prog w
    = .ok (.iface 155 (.agg #[.pointer (some ⟨6, 95, none⟩)])) w := by kernel_rfl
theorem bas_methodKind (n : Nat) (h : Value) (w : World) : (Go.method (n + 8) 155 (.agg #[h]) "Kind").run Tryz.prog w = .ok (155, h) w := by kernel_rfl
theorem bas_kindP (w : World) : ((ReflectliteType.abiMethod fun t => (fun a : Nat => Value.int IntKind.u8 (a : Int)) <$> Rtype.kind t) #[.pointer (some ⟨6, 95, none⟩)]).run Tryz.prog w = .ok (.int .u8 22) w := by kernel_rfl
theorem bas_kindT (w : World) : ((ReflectliteType.abiMethod fun t => (fun a : Nat => Value.int IntKind.u8 (a : Int)) <$> Rtype.kind t) #[.pointer (some ⟨6, 89, none⟩)]).run Tryz.prog w = .ok (.int .u8 25) w := by kernel_rfl
theorem bas_partsP (a : Addr) (w : World) : (ReflectliteValue.parts (.agg #[.pointer (some ⟨6, 95, none⟩), .pointer (some a), .int .u64 150])).run Tryz.prog w = .ok (some (95, a, 150)) w := by kernel_rfl
theorem bas_isNilP (a p : Addr) (W : World) (ha : W.cell? a = some (.pointer (some p))) :
    (ReflectliteValue.method (ReflectliteValue.valueError "reflectlite.Value.IsNil" 0) ReflectliteValue.isNil #[.agg #[.pointer (some ⟨6, 95, none⟩), .pointer (some a), .int .u64 150]]).run Tryz.prog W = .ok (.bool false) W := by
  rw [rlm]
  simp only [Sem.run_bind, bas_partsP, Result.andThen]
  simp [ReflectliteValue.isNil, loadVar, isAgg, underlying, Tryz.underlying95, ha, Result.andThen]
theorem bas_methodElem (n : Nat) (h : Value) (w : World) : (Go.method (n + 8) 155 (.agg #[h]) "Elem").run Tryz.prog w = .ok (168, .agg #[h]) w := by kernel_rfl
theorem bas_methodImplements (n : Nat) (h : Value) (w : World) : (Go.method (n + 8) 155 (.agg #[h]) "Implements").run Tryz.prog w = .ok (169, .agg #[h]) w := by kernel_rfl
theorem bas_methodAssignableTo (n : Nat) (h : Value) (w : World) : (Go.method (n + 8) 155 (.agg #[h]) "AssignableTo").run Tryz.prog w = .ok (166, .agg #[h]) w := by kernel_rfl
theorem bas_elemP (w : World) : (ReflectliteType.method ReflectliteType.elem #[.agg #[.pointer (some ⟨6, 95, none⟩)]]).run Tryz.prog w = .ok (.iface 155 (.agg #[.pointer (some ⟨6, 89, none⟩)])) w := by kernel_rfl
theorem bas_implementsT (w : World) : (ReflectliteType.relation "Implements" ReflectliteType.implements_ #[.agg #[.pointer (some ⟨6, 89, none⟩)], .iface 155 (.agg #[.pointer (some ⟨6, 60, none⟩)])]).run Tryz.prog w = .ok (.bool true) w := by kernel_rfl
theorem bas_typeOfT (v : Value) (w : World) : (ReflectliteType.typeOf #[.iface 89 v]).run Tryz.prog w = .ok (.iface 155 (.agg #[.pointer (some ⟨6, 89, none⟩)])) w := by kernel_rfl
theorem bas_assignableT (w : World) : (ReflectliteType.relation "AssignableTo" ReflectliteType.assignableTo #[.agg #[.pointer (some ⟨6, 89, none⟩)], .iface 155 (.agg #[.pointer (some ⟨6, 89, none⟩)])]).run Tryz.prog w = .ok (.bool true) w := by kernel_rfl
theorem bas_valueOfT (z : Int) (s : ByteArray) (w : World) : (ReflectliteValue.unpack (.iface 89 (.agg #[.int .i64 z, .string s]))).run Tryz.prog w
    = .ok (.agg #[.pointer (some ⟨6, 89, none⟩), .pointer (some ⟨w.heap.size, 0, none⟩), .int .u64 153]) (w.alloc (.cells #[.int .i64 z, .string s] 89)) := by kernel_rfl
theorem bas_elemOfP (w : World) : (Rtype.elem? 95).run Tryz.prog w = .ok (some 89) w := by kernel_rfl
theorem bas_mkT (p : Addr) (w : World) : (ReflectliteValue.mk 89 p ReflectliteValue.flagAddr).run Tryz.prog w = .ok (.agg #[.pointer (some ⟨6, 89, none⟩), .pointer (some p), .int .u64 409]) w := by kernel_rfl
theorem bas_elemVP (a p : Addr) (W : World) (ha : W.cell? a = some (.pointer (some p))) :
    (ReflectliteValue.method (ReflectliteValue.valueError "reflectlite.Value.Elem" 0) ReflectliteValue.elem #[.agg #[.pointer (some ⟨6, 95, none⟩), .pointer (some a), .int .u64 150]]).run Tryz.prog W
      = .ok (.agg #[.pointer (some ⟨6, 89, none⟩), .pointer (some p), .int .u64 409]) W := by
  rw [rlm]
  simp only [Sem.run_bind, bas_partsP, Result.andThen]
  simp [ReflectliteValue.elem, loadVar, isAgg, underlying, Tryz.underlying95, ha, Result.andThen, bas_elemOfP, bas_mkT]
theorem bas_partsTa (a : Addr) (w : World) : (ReflectliteValue.parts (.agg #[.pointer (some ⟨6, 89, none⟩), .pointer (some a), .int .u64 409])).run Tryz.prog w = .ok (some (89, a, 409)) w := by kernel_rfl
theorem bas_partsT (a : Addr) (w : World) : (ReflectliteValue.parts (.agg #[.pointer (some ⟨6, 89, none⟩), .pointer (some a), .int .u64 153])).run Tryz.prog w = .ok (some (89, a, 153)) w := by kernel_rfl
theorem bas_directT (w : World) : (Rtype.directlyAssignable 89 89).run Tryz.prog w = .ok true w := by kernel_rfl
theorem bas_sizeT (w : World) : (sizeOf 89).run Tryz.prog w = .ok 2 w := by kernel_rfl
/-- (Value).Set: the fault at 'ta' gets what the Value's own variable 'b' holds. -/
theorem bas_setT (ta b : Addr) (z : Int) (s : ByteArray) (old old1 : Value) (W : World) (hsb : b.spot = none) (hst : ta.spot = none) (hb : W.cell? b = some (.int .i64 z)) (hb1 : W.cell? (b.add 1) = some (.string s))
    (ht : W.cell? ta = some old) (hf : W.frozen? ta = false) (ht1 : W.cell? (ta.add 1) = some old1) (hf1 : W.frozen? (ta.add 1) = false) :
    (ReflectliteValue.set #[.agg #[.pointer (some ⟨6, 89, none⟩), .pointer (some ta), .int .u64 409], .agg #[.pointer (some ⟨6, 89, none⟩), .pointer (some b), .int .u64 153]]).run Tryz.prog W
      = .ok (.tuple #[]) ((W.setCell ta (.int .i64 z)).setCell (ta.add 1) (.string s)) := by
  obtain ⟨bb, bo, bs⟩ := b
  obtain ⟨tb, toff, ts⟩ := ta
  simp only at hsb hst
  subst hsb hst
  rw [rls]
  simp only [Sem.run_bind, bas_partsTa, bas_partsT, Result.andThen]
  simp [ReflectliteValue.flagAddr, loadVar, isAgg, underlying, Tryz.underlying89, Result.andThen, bas_directT, storeVar, Value.cells, storeCells, Addr.add]
  have hl := run_loadCells_list (P := Tryz.prog) W ⟨bb, bo, none⟩ [.int .i64 z, .string s] (fun j v hj => by
    match j with
    | 0 => cases hj; simpa [Addr.add] using hb
    | 1 => cases hj; exact hb1
    | j + 2 => simp at hj)
  simp only [List.length_cons, List.length_nil, Nat.zero_add] at hl
  simp only [Addr.add] at ht1 hf1
  have g1 : (W.setCell ⟨tb, toff, none⟩ (.int .i64 z)).cell? ⟨tb, toff + 1, none⟩ = some old1 := by
    rw [World.cell?_setCell_other _ _ _ _ (by simp)]
    simpa using ht1
  have g2 : (W.setCell ⟨tb, toff, none⟩ (.int .i64 z)).frozen? ⟨tb, toff + 1, none⟩ = false := by
    rw [World.frozen?_setCell]
    simpa using hf1
  rw [hl]
  simp [storeCells, Addr.add]
  rw [run_store Tryz.prog W ⟨tb, toff, none⟩ _ _ (by rfl)]
  simp [ht, hf]
  rw [run_store Tryz.prog _ ⟨tb, toff + 1, none⟩ _ _ (by rfl)]
  simp [g1, g2]
end Go.Proofs.YtanbjifdcplmnaaGreatDoor
/- errors.As at a target whose element is a struct of one number, an error of that very type by value: a hit: '*target' is set. -/
namespace Go.Proofs.YtanbjifdcplmnaaGreatDoor
open Go.RowKit Go.Extern.Stop Go.Stop Go.Extern

set_option maxRecDepth 100000 in
set_option maxHeartbeats 4000000 in
theorem bas_as_hit (z : Int) (s : ByteArray) (tb : Nat) (a : Addr) (old old1 : Value) (w : World) (_hsa : a.spot = none) (ha : w.cell? a = some (.pointer (some ⟨tb, 0, none⟩))) (ht0 : w.cell? ⟨tb, 0, none⟩ = some old) (hf0 : w.frozen? ⟨tb, 0, none⟩ = false) (ht1 : w.cell? ⟨tb, 1, none⟩ = some old1) (hf1 : w.frozen? ⟨tb, 1, none⟩ = false) :
    Calls Tryz.prog 68 #[.iface 89 (.agg #[.int .i64 z, .string s]), .iface 95 (.pointer (some ⟨tb, 0, none⟩)), .agg #[.pointer (some ⟨6, 95, none⟩), .pointer (some a), .int .u64 150], .iface 155 (.agg #[.pointer (some ⟨6, 89, none⟩)])] w
      fun ev w' => ev = .returned (.bool true) ∧ Below tb w w' ∧ w'.cell? ⟨tb, 0, none⟩ = some (.int .i64 z) := by
  have h47 := @run_callFunc_extern Tryz.prog 65 _ (fun args => ReflectliteValue.unpack (args.getD 0 (.tuple #[]))) Tryz.func65 (by kernel_rfl) (by kernel_rfl) (by kernel_rfl) (by kernel_rfl)
  have h52 := @run_callFunc_extern Tryz.prog 94 _ ReflectliteType.typeOf Tryz.func94 (by kernel_rfl) (by kernel_rfl) (by kernel_rfl) (by kernel_rfl)
  have h77 := @run_callFunc_extern Tryz.prog 166 _ (ReflectliteType.relation "AssignableTo" ReflectliteType.assignableTo) Tryz.func166 (by kernel_rfl) (by kernel_rfl) (by kernel_rfl) (by kernel_rfl)
  have h53 := @run_callFunc_extern Tryz.prog 95 _ (ReflectliteValue.method (ReflectliteValue.valueError "reflectlite.Value.Elem" 0) ReflectliteValue.elem) Tryz.func95 (by kernel_rfl) (by kernel_rfl) (by kernel_rfl) (by kernel_rfl)
  have h54 := @run_callFunc_extern Tryz.prog 96 _ ReflectliteValue.set Tryz.func96 (by kernel_rfl) (by kernel_rfl) (by kernel_rfl) (by kernel_rfl)
  have tO := bas_typeOfT
  have mA := bas_methodAssignableTo
  have aT := bas_assignableT
  have vT := bas_valueOfT
  have hal : a.block < w.heap.size := World.block_lt_of_cell? w _ ha
  have htl : tb < w.heap.size := World.block_lt_of_cell? w _ ht0
  have el := bas_elemVP a ⟨tb, 0, none⟩ (w.alloc (.cells #[.pointer (some ⟨6, 95, none⟩), .pointer (some a), .int .u64 150] 119)) ((World.cell?_alloc_lt _ _ a hal).trans ha)
  have st := bas_setT ⟨tb, 0, none⟩ ⟨w.heap.size + 1, 0, none⟩ z s old old1 ((w.alloc (.cells #[.pointer (some ⟨6, 95, none⟩), .pointer (some a), .int .u64 150] 119)).alloc (.cells #[.int .i64 z, .string s] 89)) rfl rfl
    (by rw [World.cell?_alloc_at _ _ _ _ (by simp)]; rfl)
    (by show World.cell? _ ⟨w.heap.size + 1, 1, none⟩ = _; rw [World.cell?_alloc_at _ _ _ _ (by simp)]; rfl)
    (by rw [World.cell?_alloc_lt _ _ ⟨tb, 0, none⟩ (by simp; omega), World.cell?_alloc_lt _ _ ⟨tb, 0, none⟩ htl]; exact ht0)
    (by rw [World.frozen?_alloc_old _ _ ⟨tb, 0, none⟩ (by simp; omega), World.frozen?_alloc_old _ _ ⟨tb, 0, none⟩ (Nat.ne_of_lt htl)]; exact hf0)
    (by show World.cell? _ ⟨tb, 1, none⟩ = _; rw [World.cell?_alloc_lt _ _ ⟨tb, 1, none⟩ (by simp; omega), World.cell?_alloc_lt _ _ ⟨tb, 1, none⟩ htl]; exact ht1)
    (by show World.frozen? _ ⟨tb, 1, none⟩ = _; rw [World.frozen?_alloc_old _ _ ⟨tb, 1, none⟩ (by simp; omega), World.frozen?_alloc_old _ _ ⟨tb, 1, none⟩ (Nat.ne_of_lt htl)]; exact hf1)
  simp only [show (⟨tb, 0, none⟩ : Addr).add 1 = ⟨tb, 1, none⟩ from rfl] at st
  go_enter Tryz.func68, Tryz.ntmps68
  go_wp2
  refine wp_loop_rounds 1 ?_
  rw [rounds_succ]
  go_wp2
  go_ret
  refine ⟨rfl, ((((Below.refl tb w).setCell (p := ⟨tb, 0, none⟩) (Nat.le_refl _) _).setCell (p := ⟨tb, 1, none⟩) (Nat.le_refl _) _).alloc (by simp [World.setCell]; omega) _).alloc (by simp [World.setCell]; omega) _, ?_⟩
  rw [World.cell?_alloc_lt _ _ ⟨tb, 0, none⟩ (by simp [World.setCell]; omega), World.cell?_alloc_lt _ _ ⟨tb, 0, none⟩ (by simp [World.setCell]; omega), World.cell?_setCell_other _ _ _ _ (by simp)]
  exact World.cell?_setCell_same _ _ _ ht0

set_option maxRecDepth 100000 in
set_option maxHeartbeats 4000000 in
theorem bas_hit (z : Int) (s : ByteArray) (tb : Nat) (old old1 : Value) (w : World) (hg : LaidE w) (ht0 : w.cell? ⟨tb, 0, none⟩ = some old) (hf0 : w.frozen? ⟨tb, 0, none⟩ = false) (ht1 : w.cell? ⟨tb, 1, none⟩ = some old1) (hf1 : w.frozen? ⟨tb, 1, none⟩ = false) :
    Calls Tryz.prog 48 #[.iface 89 (.agg #[.int .i64 z, .string s]), .iface 95 (.pointer (some ⟨tb, 0, none⟩))] w
      fun ev w' => ev = .returned (.bool true) ∧ Below tb w w' ∧ w'.cell? ⟨tb, 0, none⟩ = some (.int .i64 z) := by
  have h47 := @run_callFunc_extern Tryz.prog 65 _ (fun args => ReflectliteValue.unpack (args.getD 0 (.tuple #[]))) Tryz.func65 (by kernel_rfl) (by kernel_rfl) (by kernel_rfl) (by kernel_rfl)
  have h48 := @run_callFunc_extern Tryz.prog 66 _ (ReflectliteValue.methodAny (ReflectliteValue.valueError "reflectlite.Value.Type" 0) (fun t _ _ _ => ReflectliteType.toType t)) Tryz.func66 (by kernel_rfl) (by kernel_rfl) (by kernel_rfl) (by kernel_rfl)
  have h49 := @run_callFunc_extern Tryz.prog 67 _ (ReflectliteValue.method (ReflectliteValue.valueError "reflectlite.Value.IsNil" 0) ReflectliteValue.isNil) Tryz.func67 (by kernel_rfl) (by kernel_rfl) (by kernel_rfl) (by kernel_rfl)
  have h69 := @run_callFunc_extern Tryz.prog 155 _ (ReflectliteType.abiMethod fun t => do pure (.int .u8 (← Rtype.kind t))) Tryz.func155 (by kernel_rfl) (by kernel_rfl) (by kernel_rfl) (by kernel_rfl)
  have h79 := @run_callFunc_extern Tryz.prog 168 _ (ReflectliteType.method ReflectliteType.elem) Tryz.func168 (by kernel_rfl) (by kernel_rfl) (by kernel_rfl) (by kernel_rfl)
  have h80 := @run_callFunc_extern Tryz.prog 169 _ (ReflectliteType.relation "Implements" ReflectliteType.implements_) Tryz.func169 (by kernel_rfl) (by kernel_rfl) (by kernel_rfl) (by kernel_rfl)
  have f6 := bas_valueOfP
  have f7 := bas_typeP
  have mK := bas_methodKind
  have mE := bas_methodElem
  have mI := bas_methodImplements
  have kP := bas_kindP
  have kT := bas_kindT
  have eP := bas_elemP
  have iT := bas_implementsT
  have htl : tb < w.heap.size := World.block_lt_of_cell? w _ ht0
  have hlt := hg.lt
  have n8 := bas_isNilP ⟨w.heap.size, 0, none⟩ ⟨tb, 0, none⟩ ((w.alloc (.cells #[.pointer (some ⟨tb, 0, none⟩)] 95)).alloc (.cells #[.pointer (some ⟨6, 95, none⟩), .pointer (some ⟨w.heap.size, 0, none⟩), .int .u64 150] 119)) (by simp)
  have hg2 : ((w.alloc (.cells #[.pointer (some ⟨tb, 0, none⟩)] 95)).alloc (.cells #[.pointer (some ⟨6, 95, none⟩), .pointer (some ⟨w.heap.size, 0, none⟩), .int .u64 150] 119)).cell? ⟨0, 0, none⟩ = some (.iface 155 (.agg #[.pointer (some ⟨6, 60, none⟩)])) := by
    rw [World.cell?_alloc_lt _ _ ⟨0, 0, none⟩ (Nat.lt_of_lt_of_le hlt (by simp)), World.cell?_alloc_lt _ _ ⟨0, 0, none⟩ hlt]; exact hg
  have C := Lib.hid (bas_as_hit z s tb ⟨w.heap.size, 0, none⟩ old old1 ((w.alloc (.cells #[.pointer (some ⟨tb, 0, none⟩)] 95)).alloc (.cells #[.pointer (some ⟨6, 95, none⟩), .pointer (some ⟨w.heap.size, 0, none⟩), .int .u64 150] 119)) rfl (by simp)
    (by rw [World.cell?_alloc_lt _ _ ⟨tb, 0, none⟩ (by simp; omega), World.cell?_alloc_lt _ _ ⟨tb, 0, none⟩ htl]; exact ht0)
    (by rw [World.frozen?_alloc_old _ _ ⟨tb, 0, none⟩ (by simp; omega), World.frozen?_alloc_old _ _ ⟨tb, 0, none⟩ (Nat.ne_of_lt htl)]; exact hf0)
    (by rw [World.cell?_alloc_lt _ _ ⟨tb, 1, none⟩ (by simp; omega), World.cell?_alloc_lt _ _ ⟨tb, 1, none⟩ htl]; exact ht1)
    (by rw [World.frozen?_alloc_old _ _ ⟨tb, 1, none⟩ (by simp; omega), World.frozen?_alloc_old _ _ ⟨tb, 1, none⟩ (Nat.ne_of_lt htl)]; exact hf1))
  have HT := Lib.hid htl
  clear hg hlt htl ht0 hf0 ht1 hf1
  go_enter Tryz.func48, Tryz.ntmps48
  go_wp2_with fail
  refine C.out.mono ?_
  rintro e w1 ⟨rfl, hb1, hc1⟩
  have HB := Lib.hid hb1
  have HC := Lib.hid hc1
  clear hb1 hc1
  go_wp2_with fail
  go_ret
  exact ⟨rfl, (((Below.refl tb w).alloc (Nat.le_of_lt HT.out) _).alloc (Nat.le_trans (Nat.le_of_lt HT.out) (by simp)) _).trans HB.out, HC.out⟩
end Go.Proofs.YtanbjifdcplmnaaGreatDoor
/- What numberOf, check, Check and sumSize of layer 5 return. -/
namespace Go.Proofs.YtanbjifdcplmnaaGreatDoor
open Go.RowKit

set_option maxRecDepth 100000 in
set_option maxHeartbeats 1000000 in
theorem bnumber_any (z : Int) (s : ByteArray) (w : World) (hL : LaidE w) :
    Calls Tryz.prog 24 #[.iface 89 (.agg #[.int .i64 z, .string s])] w fun e w' => e = .returned (.int .i64 z) ∧ Below w.heap.size w w' := by
  have C1 := Lib.hid (bas_hit z s w.heap.size (.int .i64 0) (.string ⟨#[]⟩) (w.alloc (.cells #[.int .i64 0, .string ⟨#[]⟩] 89)) (hL.below ((Below.refl _ _).alloc (Nat.le_refl _) _) hL.lt) (by simp) (by simp) (by simp) (by simp))
  clear hL
  go_enter Tryz.func24, Tryz.ntmps24
  go_wp2_with fail
  refine C1.out.mono ?_
  rintro e w1 ⟨rfl, hb, hc⟩
  have HB := Lib.hid hb
  clear hb
  go_wp2_with fail
  go_ret
  exact ⟨rfl, ((Below.refl _ _).alloc (Nat.le_refl _) _).trans HB.out⟩

set_option maxRecDepth 100000 in
set_option maxHeartbeats 1000000 in
theorem bnumber_nil (w : World) :
    Calls Tryz.prog 24 #[.nilIface] w fun e w' => e = .returned (.int .i64 0) ∧ Below w.heap.size w w' := by
  have C1 := Lib.hid (as_nil (.iface 95 (.pointer (some ⟨w.heap.size, 0, none⟩))) (w.alloc (.cells #[.int .i64 0, .string ⟨#[]⟩] 89)))
  go_enter Tryz.func24, Tryz.ntmps24
  go_wp2_with fail
  refine C1.out.mono ?_
  rintro e w1 ⟨rfl, rfl⟩
  go_wp2_with fail
  go_ret
  exact ⟨rfl, (Below.refl _ _).alloc (Nat.le_refl _) _⟩

/-- Why there is no block, as a value. -/
def bfl (z : Int) (s : ByteArray) : Value := .iface 89 (.agg #[.int .i64 z, .string s])
/-- A call gives nil if ok, else a fault of the number z. -/
def WhyB (ok : Bool) (z : Int) (w : World) (e : Ending) (w' : World) : Prop := Below w.heap.size w w' ∧ ((ok = true ∧ e = .returned .nilIface) ∨ (ok = false ∧ ∃ s, e = .returned (bfl z s)))
def blkV (t n f : Nat) (c : Int) (A : Option Addr) (nd cd : Nat) : Value := .agg #[.int .u64 (t : Int), .int .u64 (n : Int), .int .u64 (f : Int), .int .i64 c, .slice A nd cd]

set_option maxRecDepth 100000 in
set_option maxHeartbeats 2000000 in
theorem bcheck_any (t n f : Nat) (c : Int) (A : Option Addr) (nd cd : Nat) (d : List UInt8) (w : World) (hd : d.length = nd) :
    Calls Tryz.prog 39 #[blkV t n f c A nd cd] w (WhyB (blkOk ⟨t, n, f, c, d⟩) 50 w) := by
  obtain ⟨R, hR⟩ : ∃ R, R = blkOk ⟨t, n, f, c, d⟩ := ⟨_, rfl⟩
  rw [← hR]
  have hR2 : R = (decide (1 ≤ (t : Int) ∧ (t : Int) ≤ 255) && (decide (¬ (n : Int) = 0) && ((decide (¬ (t : Int) = 1) || decide ((n : Int) = 1)) && (decide (0 ≤ c ∧ c ≤ 2) && decide ((nd : Int) ≤ 4096))))) := by
    rw [hR, ← hd, Bool.eq_iff_iff, blkOk_iff]
    simp only [Bool.and_eq_true, Bool.or_eq_true, decide_eq_true_eq]
    omega
  clear hR hd
  unfold blkV
  generalize (t : Int) = T at *
  generalize (n : Int) = N at *
  by_cases h1 : T < 1
  · have hr : R = false := by rw [hR2]; simp; omega
    subst hr
    clear hR2
    go_enter Tryz.func39, Tryz.ntmps39
    go_wp2_with fail
    go_ret
    exact ⟨(Below.refl _ _).alloc (Nat.le_refl _) _, .inr ⟨rfl, _, rfl⟩⟩
  have h1' : 1 ≤ T := by omega
  by_cases h2 : 255 < T
  · have hr : R = false := by rw [hR2]; simp; omega
    subst hr
    clear hR2
    go_enter Tryz.func39, Tryz.ntmps39
    go_wp2_with fail
    go_ret
    exact ⟨(Below.refl _ _).alloc (Nat.le_refl _) _, .inr ⟨rfl, _, rfl⟩⟩
  have h2' : T ≤ 255 := by omega
  by_cases h3 : N = 0
  · have hr : R = false := by rw [hR2]; simp [h3]
    subst hr h3
    clear hR2
    go_enter Tryz.func39, Tryz.ntmps39
    go_wp2_with fail
    go_ret
    exact ⟨(Below.refl _ _).alloc (Nat.le_refl _) _, .inr ⟨rfl, _, rfl⟩⟩
  have h3' : (N == 0) = false := by simpa using h3
  by_cases h4 : T = 1 ∧ N ≠ 1
  · have hr : R = false := by rw [hR2]; simp [h4.1, h4.2]
    obtain ⟨h4, h5⟩ := h4
    have h5' : (N == 1) = false := by simpa using h5
    subst hr h4
    clear hR2
    go_enter Tryz.func39, Tryz.ntmps39
    go_wp2_with fail
    go_ret
    exact ⟨(Below.refl _ _).alloc (Nat.le_refl _) _, .inr ⟨rfl, _, rfl⟩⟩
  have h6 : (decide (¬ T = 1) || decide (N = 1)) = true := by simp; omega
  have h7 : decide (¬ N = 0) = true := by simpa using h3
  have h8 : decide (1 ≤ T ∧ T ≤ 255) = true := by simp; omega
  rw [h6, h7, h8, Bool.true_and, Bool.true_and, Bool.true_and] at hR2
  clear h6 h7 h8
  have key : ∀ (hq : T ≠ 1 ∨ N = 1), Calls Tryz.prog 39 #[.agg #[.int .u64 T, .int .u64 N, .int .u64 (f : Int), .int .i64 c, .slice A nd cd]] w (WhyB R 50 w) := by
    intro hq
    by_cases hT : T = 1
    · obtain rfl : N = 1 := by omega
      subst hT
      clear hq h1 h1' h2 h2' h3 h3' h4
      by_cases h9 : c < 0
      · have hr : R = false := by rw [hR2]; simp; omega
        subst hr
        clear hR2
        go_enter Tryz.func39, Tryz.ntmps39
        go_wp2_with fail
        go_ret
        exact ⟨(Below.refl _ _).alloc (Nat.le_refl _) _, .inr ⟨rfl, _, rfl⟩⟩
      have h9' : 0 ≤ c := by omega
      by_cases h10 : 2 < c
      · have hr : R = false := by rw [hR2]; simp; omega
        subst hr
        clear hR2
        go_enter Tryz.func39, Tryz.ntmps39
        go_wp2_with fail
        go_ret
        exact ⟨(Below.refl _ _).alloc (Nat.le_refl _) _, .inr ⟨rfl, _, rfl⟩⟩
      have h10' : c ≤ 2 := by omega
      by_cases h11 : (4096 : Int) < nd
      · have hr : R = false := by rw [hR2]; simp; omega
        have h11' : 4096 < nd := by omega
        subst hr
        clear hR2
        go_enter Tryz.func39, Tryz.ntmps39
        go_wp2_with fail
        go_ret
        exact ⟨(Below.refl _ _).alloc (Nat.le_refl _) _, .inr ⟨rfl, _, rfl⟩⟩
      have h11' : nd ≤ 4096 := by omega
      have hr : R = true := by rw [hR2]; simp; omega
      subst hr
      clear hR2
      go_enter Tryz.func39, Tryz.ntmps39
      go_wp2_with fail
      go_ret
      exact ⟨(Below.refl _ _).alloc (Nat.le_refl _) _, .inl ⟨rfl, rfl⟩⟩
    · have hT' : (T == 1) = false := by simpa using hT
      clear hq h4
      by_cases h9 : c < 0
      · have hr : R = false := by rw [hR2]; simp; omega
        subst hr
        clear hR2
        go_enter Tryz.func39, Tryz.ntmps39
        go_wp2_with fail
        go_ret
        exact ⟨(Below.refl _ _).alloc (Nat.le_refl _) _, .inr ⟨rfl, _, rfl⟩⟩
      have h9' : 0 ≤ c := by omega
      by_cases h10 : 2 < c
      · have hr : R = false := by rw [hR2]; simp; omega
        subst hr
        clear hR2
        go_enter Tryz.func39, Tryz.ntmps39
        go_wp2_with fail
        go_ret
        exact ⟨(Below.refl _ _).alloc (Nat.le_refl _) _, .inr ⟨rfl, _, rfl⟩⟩
      have h10' : c ≤ 2 := by omega
      by_cases h11 : (4096 : Int) < nd
      · have hr : R = false := by rw [hR2]; simp; omega
        have h11' : 4096 < nd := by omega
        subst hr
        clear hR2
        go_enter Tryz.func39, Tryz.ntmps39
        go_wp2_with fail
        go_ret
        exact ⟨(Below.refl _ _).alloc (Nat.le_refl _) _, .inr ⟨rfl, _, rfl⟩⟩
      have h11' : nd ≤ 4096 := by omega
      have hr : R = true := by rw [hR2]; simp; omega
      subst hr
      clear hR2
      go_enter Tryz.func39, Tryz.ntmps39
      go_wp2_with fail
      go_ret
      exact ⟨(Below.refl _ _).alloc (Nat.le_refl _) _, .inl ⟨rfl, rfl⟩⟩
  exact key (by omega)

set_option maxRecDepth 100000 in
set_option maxHeartbeats 1000000 in
theorem sumsize_any (k : Int) (w : World) :
    Calls Tryz.prog 47 #[.int .i64 k] w fun e w' => e = .returned (.int .i64 (sumN k : Int)) ∧ Below w.heap.size w w' := by
  have C1 := Lib.hid (bytes_any k none 0 0 0 [] w Rd.nil_ (by decide))
  have hl := crcBytes_len k []
  generalize sumN k = N at *
  have HL := Lib.hid hl
  clear hl
  go_enter Tryz.func47, Tryz.ntmps47
  go_wp2_with fail
  refine C1.out.mono ?_
  rintro e w1 ⟨A, n, c, rfl, hr, hc, hb⟩
  have HB := Lib.hid hb
  obtain rfl : N = n := HL.out.symm.trans hr.1
  clear hb hr
  go_wp2_with fail
  go_ret
  exact ⟨rfl, HB.out⟩
end Go.Proofs.YtanbjifdcplmnaaGreatDoor
