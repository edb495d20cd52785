/- The code's log: keep. -/
import Derived.Test.YtahgaogmcffglaaDoorJWcH
namespace Go.Proofs.YtahgaogmcffglaaDoor
open Go.RowKit

theorem ScS.len_ {w : World} {B : Nat} {a : Addr} {m c : Nat} {ps : List QR} (h : ScS w B (.slice (some a) m c) ps) : ps.length = m := by
  rcases h.1.2 with ⟨hv, -⟩ | ⟨g, cap, cur, hv, -⟩
  · injection hv with h1 _ _
    exact absurd h1 (by simp)
  · injection hv with _ h2 _
    exact h2.symm
/-- append of a row of records of one's own. -/
theorem wpList_appRs {w : World} {ops : Array Oper} {rest : List Oper} {o : Oper} {a : Act} {Q : Exit → Act → World → Prop} (hgd : o.guard = none) (s x : Operand)
    (ho : o.op = .call { callee := .builtin .append, args := #[s, x], argTypes := #[29, 29] })
    (base : Nat) (v : Value) (qs ps : List QR) (hs : a.eval s = v) (hown : ScS w base v qs) (b m c : Nat) (hx : a.eval x = .slice (some ⟨b, 0, none⟩) m c) (hps : ScS w base (.slice (some ⟨b, 0, none⟩) m c) ps)
    (hlen : qs.length + ps.length ≤ 4398046511104) (hbase : base ≤ w.heap.size)
    (h : ∀ v' w', ScS w' base v' (qs ++ ps) → w.grownBy w' v.ownBlock → (v'.ownBlock = v.ownBlock ∨ v'.ownBlock = some w.heap.size) → wpList Tryd.prog ops Q rest (a.put o.dst v') w') : wpList Tryd.prog ops Q (o :: rest) a w := by
  obtain ⟨i, hi, hi0, hi1, hi2⟩ := info_parts info_rec14
  have hm := hps.len_
  have hcells : ∀ j u, (flatQ ps)[j]? = some u → w.cell? ((⟨b, 0, none⟩ : Addr).add j) = some u := fun j u hj => World.ownsRow.cells hps.1 (g := b) rfl j u hj
  obtain ⟨v', w', hrun, h2, h3, -, h5⟩ := run_append_own_at (P := Tryd.prog) w base 29 o.type 35 i (.agg #[.int .i64 0, .slice none 0 0]) 2 32 Tryd.underlying29 hi hi0 hi1 hi2 rfl (by decide) v qs.length (flatQ qs) hown.1 ⟨b, 0, none⟩ m c (flatQ ps) (by rw [flatQ_len, hm]) hcells (fun u hu => by
    obtain ⟨q, -, hq⟩ := List.mem_flatMap.1 hu
    simp at hq
    rcases hq with rfl | rfl <;> rfl) (by unfold maxLen; omega) (by omega) hbase
  refine wpList_plain hgd fun K hK => ?_
  unfold Oper.wp execOp
  simp only [ho, resolve, invoke, builtin, Sem.run_bind, Sem.run_pure, Result.andThen_ok, List.map_toArray, List.map_cons, List.map_nil, hs, hx, hrun]
  refine hK _ _ (h v' w' ⟨?_, ?_⟩ h3 h5)
  · rw [flatQ_app, List.length_append, hm]
    exact h2
  · have hk : ∀ y : QR, Ob w base 5 (.slice y.2.1 y.2.2.1 y.2.2.2) y.1.dat → Ob w' base 5 (.slice y.2.1 y.2.2.1 y.2.2.2) y.1.dat := fun y hy => by
      refine hy.kept h3 ?_
      rcases hown.1.2 with ⟨hv, -⟩ | ⟨g, cap, cur, hv, -, hg, -⟩
      · rw [hv]
        show _ ∨ _ ≠ (none : Option Nat)
        cases (Value.slice y.2.1 y.2.2.1 y.2.2.2).ownBlock with
        | none => exact .inl rfl
        | some g' => exact .inr (by simp)
      · exact .inr (by rw [hv]; exact hy.not_at14 hg (by decide))
    intro y hy
    rcases List.mem_append.1 hy with hy | hy
    · exact ⟨hk y (hown.2 y hy).1, (hown.2 y hy).2⟩
    · exact ⟨hk y (hps.2 y hy).1, (hps.2 y hy).2⟩
/-- The blocks of a row of records. -/
def FtR (vr : Value) (qs : List QR) (k : Nat) : Prop := vr.ownBlock = some k ∨ ∃ q ∈ qs, (Value.slice q.2.1 q.2.2.1 q.2.2.2).ownBlock = some k
theorem ScS.wide {w : World} {B B' : Nat} {v : Value} {qs : List QR} (h : ScS w B v qs) (hB : B' ≤ B) : ScS w B' v qs := by
  refine ⟨⟨h.1.1, ?_⟩, fun q hq => ⟨(h.2 q hq).1.wide hB, (h.2 q hq).2⟩⟩
  rcases h.1.2 with hn | ⟨b, cap, cur, e, hb, rest⟩
  · exact .inl hn
  · exact .inr ⟨b, cap, cur, e, Nat.le_trans hB hb, rest⟩
theorem Ob.own_ge {w : World} {B : Nat} {t : TypeId} {v : Value} {l : List UInt8} (h : Ob w B t v l) {k : Nat} (hk : v.ownBlock = some k) : B ≤ k ∧ k < w.heap.size := by
  have := World.ownsRow.lt h k hk
  exact ⟨this.1, this.2⟩
theorem ScS.own_ge {w : World} {B : Nat} {v : Value} {qs : List QR} (h : ScS w B v qs) {k : Nat} (hk : FtR v qs k) : B ≤ k ∧ k < w.heap.size := by
  rcases hk with hk | ⟨q, hq, hk⟩
  · have := World.ownsRow.lt h.1 k hk
    exact ⟨this.1, this.2⟩
  · exact (h.2 q hq).1.own_ge hk
/-- A log as it is written to memory anew. -/
theorem WlK.mk_ {w : World} {B g gd : Nat} {S : Ws} {vr : Value} {qs : List QR} (hB : B ≤ g) (hg : w.heap[g]? = some (.cells (S.cs gd vr) 63 (0, 0))) (hs : ScS w B vr qs) (hq : qs.map (·.1) = S.L) (hf : S.L.length ≤ 1099511627776) : WlK w (fun k => k = g ∨ FtR vr qs k) B g gd S :=
  ⟨hB, .inl rfl, fun k hk => by
    rcases hk with rfl | hk
    · exact ⟨hB, (Array.getElem?_eq_some_iff.1 hg).1⟩
    · exact hs.own_ge hk, hf, vr, qs, hg, hs, hq, fun b hb => .inr (.inl hb), fun q hq b hb => .inr (.inr ⟨q, hq, hb⟩)⟩
theorem Fr.wide {F F' : Nat → Prop} {w w' : World} (h : Fr F w w') (hF : ∀ k, F k → F' k) : Fr F' w w' := ⟨h.os, h.tape, h.output, h.size, fun k hk hn => h.block k hk fun hf => hn (hF k hf)⟩
theorem Fr.low {F : Nat → Prop} {w w' w'' : World} {g : Nat} (h : Fr F w w') (hb : Below g w' w'') (ho : ∀ k, k ≠ g → w''.heap[k]? = w'.heap[k]?) (hg : F g ∨ w.heap.size ≤ g) : Fr F w w'' :=
  ⟨hb.os.trans h.os, hb.tape.trans h.tape, hb.output.trans h.output, Nat.le_trans h.size hb.size, fun k hk hn => (ho k (fun e => by
    subst e
    rcases hg with hg | hg
    · exact hn hg
    · omega)).trans (h.block k hk hn)⟩
/-- What keep leaves. -/
def KeepR (Z : List (List UInt8)) (l0 : Int) (a n t c0 : Nat) (Lo l : List Rcd) (w : World) (F : Nat → Prop) (B g gd : Nat) (e : Ending) (w' : World) : Prop :=
  ∃ r Fd' Fw', LayR Z l0 a n t c0 l r ∧ CDk w' Fd' B gd r.1 ∧ WlK w' Fw' B g gd (if r.2 = 0 then ⟨a, n, t, c0 + sumL l, Lo ++ l, false⟩ else ⟨0, 0, 0, 0, [], true⟩) ∧ (∀ k, Fd' k → ¬ Fw' k) ∧ Fr F w w' ∧ Grew w F (fun k => Fd' k ∨ Fw' k) ∧ e = .returned (.int .i64 r.2)
theorem LayR.err {Z : List (List UInt8)} {l0 : Int} {a n t c0 : Nat} {l : List Rcd} {r : Cd × Int} (h : LayR Z l0 a n t c0 l r) : r.2 = 0 ∨ r.2 = 131 := by
  rcases h with ⟨-, j, lf, rfl⟩ | ⟨lf, -, rfl⟩ | ⟨-, j, lf, rfl⟩
  · exact .inr rfl
  · exact .inl rfl
  · exact .inr rfl
theorem wal_size : (Tryd.prog.info? 63).map (·.size) = some 7 := by kernel_rfl
set_option maxRecDepth 100000 in
set_option maxHeartbeats 16000000 in
theorem wkeep_any (X : Snt14) (w : World) {Fd Fw : Nat → Prop} {B gd g : Nat} {Z : List (List UInt8)} {lf : Int} {S : Ws} (t c0 : Nat) (vo : Value) (qo : List QR) (Lo : List Rcd) (A : Option Addr) (m c : Nat) (l : List Rcd)
    (hA : ∀ W, Below B w W → Lds14 X W) (hBw : B ≤ w.heap.size) (hd : CDk w Fd B gd ⟨Z, [], true, lf⟩) (hw : WlK w Fw B g gd S) (hdis : ∀ k, Fd k → ¬ Fw k)
    (ho : ScS w B vo qo) (hoq : qo.map (·.1) = Lo) (hof : ∀ k, FtR vo qo k → Fw k ∧ k ≠ g)
    (hr : ∀ W, Fr (fun k => Fd k ∨ Fw k) w W → RwC W w.heap.size A m l) (hlive : S.dead = false)
    (hok : ∀ r ∈ l, rokR r = true) (ht : t < 18446744073709551616) (hn1 : 1 ≤ S.n) (hin : S.a + S.n ≤ Z.length) (hfit : c0 + sumL l ≤ hlf S.n * 64) (hlo : Lo.length ≤ 1000000) :
    Calls Tryd.prog 42 #[.pointer (some ⟨g, 0, none⟩), hdV t c0, vo, .slice A m c] w (KeepR Z lf S.a S.n t c0 Lo l w (fun k => Fd k ∨ Fw k) B g gd) := by
  have HA := Lib.hid hA
  have HD := Lib.hid hd
  have HWL := Lib.hid hw
  have HDI := Lib.hid hdis
  have HOW := Lib.hid ho
  have HOQ := Lib.hid hoq
  have HOF := Lib.hid hof
  have HR := Lib.hid hr
  have HLV := Lib.hid hlive
  have HOK := Lib.hid hok
  have HBW := Lib.hid hBw
  have HLO := Lib.hid hlo
  have hlb : l.length ≤ 4194304 := by
    have h1 := len_sumL l
    have h2 := hlf_two hn1
    have h3 : Z.length ≤ 65536 := hd.few
    omega
  have HLB := Lib.hid hlb
  obtain ⟨w1, hw1⟩ : ∃ w1, w1 = w.alloc (.cells #[.int .u64 (t : Int), .int .i64 (c0 : Int)] 61) := ⟨_, rfl⟩
  have hb1 : Below w.heap.size w w1 := by rw [hw1]; exact (Below.refl _ _).alloc (Nat.le_refl _) _
  have hs1 : w.heap.size < w1.heap.size := by rw [hw1]; simp
  have hh1 : w1.heap[w.heap.size]? = some (.cells #[.int .u64 (t : Int), .int .i64 (c0 : Int)] 61 (0, 0)) := by rw [hw1]; exact heap_alloc_new w _
  have HB1 := Lib.hid hb1
  have HS1 := Lib.hid hs1
  have HH1 := Lib.hid hh1
  have CLY := Lib.hid (wlay_any X w1 (Z := Z) (lf := lf) (S := S) t c0 A m c l (fun W hW => hA W ((hb1.mono hBw).trans hW)) (Nat.le_trans hBw hb1.size) (hd.below hb1) (hw.below hb1) hdis ((hr w1 (Fr.of_below hb1)).elim fun h1 h2 => ⟨h1, fun h0 => by
    obtain ⟨b, o, e, hb, hx⟩ := h2 h0
    exact ⟨b, o, e, Nat.lt_of_lt_of_le hb hb1.size, hx.more hb1.size⟩⟩) hok ht hn1 hin hfit)
  obtain ⟨⟨x0, x1⟩, z0, z1⟩ := row2 hh1
  clear hA hd hw hdis ho hoq hof hr hok hBw hlo hlb hb1 hs1 hh1 ht hn1 hin hfit hlive
  unfold WlayR at CLY
  unfold hdV at *
  go_enter Tryd.func42, Tryd.ntmps42
  go_upto_region 1 with fail
  rw [← hw1]
  clear hw1
  go_wp2_with fail
  refine CLY.out.mono ?_
  rintro e w2 ⟨r2, Fd2, hl2, hd2, hf2, hg2, t2, c2, rfl, ht2⟩
  obtain ⟨D2, e2⟩ := r2
  have HN1 : Hid (¬ Fd w.heap.size) := HD.out.at_wide (Nat.le_refl _)
  have HH2 : Hid (w2.heap[w.heap.size]? = some (.cells #[.int .u64 (t : Int), .int .i64 (c0 : Int)] 61 (0, 0))) := (hf2.block _ HS1.out HN1.out).trans HH1.out
  have HF2 : Hid (Fr Fd w w2) := (Fr.of_below HB1.out : Fr Fd w w1).trans hf2 (Grew.refl _ _)
  have HG2 : Hid (Grew w Fd Fd2) := (Grew.refl w Fd).trans hg2 HB1.out.size
  have HW2 := Lib.hid ((HWL.out.below HB1.out).fr hf2 (fun k h1 h2 => HDI.out k h2 h1))
  have HO2 : Hid (ScS w2 B vo qo) := HOW.out.same (fun b hb => HF2.out.block b (HOW.out.own_ge (.inl hb)).2 (fun hf => HDI.out b hf (HOF.out b (.inl hb)).1)) (fun q hq b hb => HF2.out.block b (HOW.out.own_ge (.inr ⟨q, hq, hb⟩)).2 (fun hf => HDI.out b hf (HOF.out b (.inr ⟨q, hq, hb⟩)).1))
  have HN2 : Hid (¬ Fd2 w.heap.size) := fun hf => by
    rcases hg2 _ hf with h | h
    · exact HN1.out h
    · have := HS1.out; omega
  have HND : Hid (∀ k, Fd2 k → ¬ Fw k) := fun k h1 h2 => by
    rcases HG2.out k h1 with h3 | h3
    · exact HDI.out k h3 h2
    · have := (HWL.out.fit k h2).2; omega
  have D2' := Lib.hid hd2
  have HL2 := Lib.hid hl2
  have HT2 := Lib.hid ht2
  have he2 : e2 = 0 ∨ e2 = 131 := hl2.err
  obtain ⟨w3, hw3⟩ : ∃ w3, w3 = (w2.setCell ⟨w.heap.size, 0, none⟩ (.int .u64 (t2 : Int))).setCell ⟨w.heap.size, 1, none⟩ (.int .i64 (c2 : Int)) := ⟨_, rfl⟩
  have hne : ∀ k, k ≠ w.heap.size → w3.heap[k]? = w2.heap[k]? := fun k hk => by rw [hw3]; exact (Below.heap_setCell _ _ _ _ hk).trans (Below.heap_setCell _ _ _ _ hk)
  have hs3 : w3.heap.size = w2.heap.size := by rw [hw3, World.size_setCell, World.size_setCell]
  have HH3 : Hid (w3.heap[w.heap.size]? = some (.cells #[.int .u64 (t2 : Int), .int .i64 (c2 : Int)] 61 (0, 0))) := by show _ = _; rw [hw3]; exact row_setC (row_setC HH2.out 0 _) 1 _
  have D3 : Hid (CDk w3 Fd2 B gd D2) := by show CDk _ _ _ _ _; rw [hw3]; exact (hd2.set HN2.out _).set HN2.out _
  have HF3 : Hid (Fr Fd w w3) := by show Fr _ _ _; rw [hw3]; exact (HF2.out.setCell (.inr (Nat.le_refl _)) _).setCell (.inr (Nat.le_refl _)) _
  have HFW : Hid (∀ k, Fw k → k ≠ w.heap.size) := fun k hk => by have := (HWL.out.fit k hk).2; omega
  have HW3 : Hid (WlK w3 Fw B g gd S) := HW2.out.same (Nat.le_of_eq hs3.symm) fun k hk => hne k (HFW.out k hk)
  have HO3 : Hid (ScS w3 B vo qo) := HO2.out.same (fun b hb => hne b (HFW.out b (HOF.out b (.inl hb)).1)) (fun q hq b hb => hne b (HFW.out b (HOF.out b (.inr ⟨q, hq, hb⟩)).1))
  have W3 := Lib.hid hw3
  obtain ⟨vr, qs, hrow, -⟩ := HW3.out.st
  obtain ⟨-, -, ⟨d0, -⟩, -⟩ := HW3.out.cells
  obtain ⟨⟨x0, x1⟩, z0, z1⟩ := row2 HH2.out
  have HRW := Lib.hid hrow
  have HGE : Hid (B ≤ g) := HWL.out.le
  clear hl2 hd2 hf2 hg2 ht2 hne hs3 hw3 hrow
  rcases he2 with rfl | rfl
  case inr =>
    go_upto_region 3 with fail
    rw [← W3.out]
    go_wp2_with (first
      | (refine wpList_stRow13 rfl 63 (.tmp 25) (.tmp 24) rfl g _ rfl rfl 63 _ HRW.out wal_size rfl (by intro u hu; simp at hu; rcases hu with rfl | rfl | rfl | rfl | rfl | rfl | rfl <;> rfl) ?_; intro w4 r4 o4 b4 z4; have R4 := Lib.hid r4; have O4 := Lib.hid o4; have B4 := Lib.hid (b4 g w3 (Below.refl _ _) (Nat.le_refl _)); clear r4 o4 b4 z4)
      | fail)
    go_ret
    have hng : ¬ Fd2 g := fun hf => HND.out g hf HWL.out.fg
    have hft : ∀ k, ¬ FtR (.slice none 0 0) [] k := fun k hk => by
      rcases hk with hk | ⟨q, hq, -⟩
      · cases hk
      · exact absurd hq (by simp)
    refine ⟨(D2, 131), Fd2, fun k => k = g ∨ FtR (.slice none 0 0) [] k, HL2.out, D3.out.same B4.out.size (fun k hk => O4.out k fun e => hng (e ▸ hk)), ?_, fun k h1 h2 => ?_, (HF3.out.wide fun k h => .inl h).low B4.out O4.out (.inl (.inr HWL.out.fg)), fun k hk => ?_, rfl⟩
    · exact WlK.mk_ (S := ⟨0, 0, 0, 0, [], true⟩) HGE.out R4.out ⟨World.ownsRow_nil _ _ _ _, fun q hq => absurd hq (by simp)⟩ rfl (Nat.zero_le _)
    · rcases h2 with rfl | h2
      · exact hng h1
      · exact hft k h2
    · rcases hk with hk | rfl | hk
      · rcases HG2.out k hk with h | h
        · exact .inl (.inl h)
        · exact .inr h
      · exact .inl (.inr HWL.out.fg)
      · exact absurd hk (hft k)
  obtain ⟨rfl, hc3⟩ := HT2.out rfl
  have HC3 := Lib.hid hc3
  have hLd : ∀ r ∈ l, r.dat.length ≤ 8192 := fun r hr => (rokR_iff.1 (HOK.out r hr)).2.2
  have HLD := Lib.hid hLd
  have hf3 : w3.frozen? ⟨g, 3, none⟩ = false := by simp [World.frozen?, HRW.out]
  have hf4 : w3.frozen? ⟨g, 4, none⟩ = false := by simp [World.frozen?, HRW.out]
  obtain ⟨-, -, ⟨-, -, -, e3, e4, -⟩, -⟩ := HW3.out.cells
  obtain ⟨⟨y0, y1⟩, -, -⟩ := row2 HH3.out
  clear hLd hc3
  go_upto_region 5 with fail
  rw [← W3.out]
  clear x0 x1 z0 z1
  go_upto_region 6 with fail
  obtain ⟨w5, hw5⟩ : ∃ w5, w5 = (w3.setCell ⟨g, 3, none⟩ (.int .u64 (t2 : Int))).setCell ⟨g, 4, none⟩ (.int .i64 (c2 : Int)) := ⟨_, rfl⟩
  rw [← hw5]
  have hne : ∀ k, k ≠ g → w5.heap[k]? = w3.heap[k]? := fun k hk => by rw [hw5]; exact (Below.heap_setCell _ _ _ _ hk).trans (Below.heap_setCell _ _ _ _ hk)
  have hb5 : Below g w3 w5 := by rw [hw5]; exact (Below.setCell (Below.refl g w3) (p := ⟨g, 3, none⟩) (Nat.le_refl g) _).setCell (p := ⟨g, 4, none⟩) (Nat.le_refl g) _
  have R5 : Hid (w5.heap[g]? = some (.cells #[.pointer (some ⟨gd, 0, none⟩), .int .i64 (S.a : Int), .int .i64 (S.n : Int), .int .u64 (t2 : Int), .int .i64 (c2 : Int), vr, .bool S.dead] 63 (0, 0))) := by show _ = _; rw [hw5]; exact row_setC (row_setC HRW.out 3 _) 4 _
  have hng : ¬ Fd2 g := fun hf => HND.out g hf HWL.out.fg
  have D5 : Hid (CDk w5 Fd2 B gd D2) := D3.out.same hb5.size (fun k hk => hne k fun e => hng (e ▸ hk))
  have HF5 : Hid (Fr (fun k => Fd k ∨ Fw k) w w5) := (HF3.out.wide fun k h => .inl h).low hb5 hne (.inl (.inr HWL.out.fg))
  have HO5 : Hid (ScS w5 B vo qo) := HO3.out.same (fun b hb => hne b (HOF.out b (.inl hb)).2) (fun q hq b hb => hne b (HOF.out b (.inr ⟨q, hq, hb⟩)).2)
  have hrl := HR.out w5 HF5.out
  have CC := Lib.hid (wcopies_any A m c w.heap.size l w5 hrl HF5.out.size (by rw [← hrl.1]; exact Nat.le_trans HLB.out (by decide)) HLD.out)
  have HGL : Hid (g < w5.heap.size) := (Array.getElem?_eq_some_iff.1 R5.out).1
  have HQL : Hid (qo.length = Lo.length) := by show _ = _; rw [← HOQ.out, List.length_map]
  have HBW5 : Hid (B ≤ w5.heap.size) := Nat.le_trans HBW.out HF5.out.size
  clear hne hb5 hng hrl hw5 y0 y1 e3 e4 hf3 hf4 d0
  unfold CpsR at CC
  go_wp2_with (first
    | (go_at_call 47; refine CC.out.mono ?_; rintro e w6 ⟨hb6, b6, q6, rfl, hs6, hq6⟩; have S6 := Lib.hid hs6; have Q6 := Lib.hid hq6; have B6 := Lib.hid hb6; have Q6L : Hid (q6.length = l.length) := (by show _ = _; rw [← hq6, List.length_map]); clear hs6 hq6 hb6)
    | (at_builtin; refine wpList_appRs rfl (.tmp 32) (.tmp 34) rfl B vo qo q6 rfl (HO5.out.below B6.out) b6 l.length l.length rfl (S6.out.wide HBW5.out) (by rw [HQL.out, Q6L.out]; have := HLO.out; have := HLB.out; omega) (Nat.le_trans HBW5.out B6.out.size) ?_; intro v7 w7 hs7 hg7 hv7; obtain ⟨A7, c7, rfl, -, -⟩ := hs7.rw; have S7 := Lib.hid hs7; have G7 := Lib.hid hg7; have V7 := Lib.hid hv7; have R7 : Hid (w7.heap[g]? = some (.cells #[.pointer (some ⟨gd, 0, none⟩), .int .i64 (S.a : Int), .int .i64 (S.n : Int), .int .u64 (t2 : Int), .int .i64 (c2 : Int), vr, .bool S.dead] 63 (0, 0))) := (hg7.block g (Nat.lt_of_lt_of_le HGL.out B6.out.size) (fun e => (HOF.out g (.inl e.symm)).2 rfl)).trans ((B6.out.block g HGL.out).trans R5.out); have f7 : w7.frozen? ⟨g, 5, none⟩ = false := (by simp [World.frozen?, R7.out]); have e7 : w7.cell? ⟨g, 5, none⟩ = some vr := (by rw [cell_of_row w7 g _ _ _ _ R7.out]; rfl); clear hs7 hg7 hv7)
    | fail)
  obtain ⟨w8, hw8⟩ : ∃ w8, w8 = w7.setCell ⟨g, 5, none⟩ (.slice A7 (qo ++ q6).length c7) := ⟨_, rfl⟩
  have hne : ∀ k, k ≠ g → w8.heap[k]? = w7.heap[k]? := fun k hk => by rw [hw8]; exact Below.heap_setCell _ _ _ _ hk
  have hb8 : Below g w7 w8 := by rw [hw8]; exact Below.setCell (Below.refl g w7) (p := ⟨g, 5, none⟩) (Nat.le_refl g) _
  have hng : ¬ Fd2 g := fun hf => HND.out g hf HWL.out.fg
  have hlt5 : w.heap.size ≤ w5.heap.size := HF5.out.size
  have R8 : w8.heap[g]? = some (.cells (Ws.cs ⟨S.a, S.n, t2, c2, Lo ++ l, false⟩ gd (.slice A7 (qo ++ q6).length c7)) 63 (0, 0)) := by
    have := row_setC R7.out 5 (.slice A7 (qo ++ q6).length c7)
    rw [HLV.out] at this
    rw [hw8]
    exact this
  have hft : ∀ k, FtR (.slice A7 (qo ++ q6).length c7) (qo ++ q6) k → (Fw k ∧ k ≠ g) ∨ w5.heap.size ≤ k := fun k hk => by
    rcases hk with hk | ⟨q, hq, hk⟩
    · rcases V7.out with h | h
      · rw [h] at hk
        exact .inl (HOF.out k (.inl hk))
      · rw [h] at hk
        obtain rfl := Option.some.inj hk
        exact .inr B6.out.size
    · rcases List.mem_append.1 hq with hq | hq
      · exact .inl (HOF.out k (.inr ⟨q, hq, hk⟩))
      · exact .inr ((S6.out.2 q hq).1.own_ge hk).1
  have S8 : ScS w8 B (.slice A7 (qo ++ q6).length c7) (qo ++ q6) := S7.out.same (fun b hb => hne b (by
    rcases hft b (.inl hb) with h | h
    · exact h.2
    · have := HGL.out; omega)) (fun q hq b hb => hne b (by
    rcases hft b (.inr ⟨q, hq, hb⟩) with h | h
    · exact h.2
    · have := HGL.out; omega))
  have hm8 : (qo ++ q6).map (·.1) = Lo ++ l := by rw [List.map_append, HOQ.out, Q6.out]
  have F7 : Fr (fun k => Fd k ∨ Fw k) w w7 := ((HF5.out.trans (Fr.of_below B6.out) (Grew.refl _ _)).grown G7.out (fun j hj => .inl (.inr (HOF.out j (.inl hj)).1)))
  go_wp2_with fail
  go_ret
  rw [show w7.setCell ⟨g, 5, none⟩ (.slice A7 (qo.length + q6.length) c7) = w8 by rw [hw8, List.length_append]]
  refine ⟨(D2, 0), Fd2, fun k => k = g ∨ FtR (.slice A7 (qo ++ q6).length c7) (qo ++ q6) k, HL2.out, ?_, ?_, fun k h1 h2 => ?_, F7.low hb8 hne (.inl (.inr HWL.out.fg)), fun k hk => ?_, rfl⟩
  · refine ((D5.out.below B6.out).same G7.out.size fun k hk => ?_).same hb8.size fun k hk => hne k fun e => hng (e ▸ hk)
    exact G7.out.block k (Nat.lt_of_lt_of_le (D5.out.fit k hk).2 B6.out.size) fun e => HND.out k hk (HOF.out k (.inl e.symm)).1
  · have := WlK.mk_ (S := ⟨S.a, S.n, t2, c2, Lo ++ l, false⟩) HGE.out R8 S8 hm8 (by show (Lo ++ l).length ≤ _; rw [List.length_append]; have := HLO.out; have := HLB.out; omega)
    rw [HC3.out] at this
    exact this
  · rcases h2 with rfl | h2
    · exact hng h1
    · rcases hft k h2 with h | h
      · exact HND.out k h1 h.1
      · have := (D5.out.fit k h1).2; omega
  · rcases hk with hk | rfl | hk
    · rcases HG2.out k hk with h | h
      · exact .inl (.inl h)
      · exact .inr h
    · exact .inl (.inr HWL.out.fg)
    · rcases hft k hk with h | h
      · exact .inl (.inr h.1)
      · exact .inr (Nat.le_trans hlt5 h)
end Go.Proofs.YtahgaogmcffglaaDoor
