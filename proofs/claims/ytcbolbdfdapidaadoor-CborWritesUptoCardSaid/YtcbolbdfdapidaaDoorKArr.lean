/- What Array of layer 3 returns, of items without lists of their own. What clone and Array of layer 3 return, of items without lists of their own. -/
import Derived.Test.YtcbolbdfdapidaaDoorMask
import Derived.Test.YtcbolbdfdapidaaDoorKMake
import Derived.Test.YtcbolbdfdapidaaDoorKCheck
import Derived.Test.YtcbolbdfdapidaaDoorCborD2
import Derived.Test.YtcbolbdfdapidaaDoorKRd
namespace Go.Proofs.YtcbolbdfdapidaaDoor
open Go.RowKit

/-- The cells of a list of items. -/
theorem RdIs.cells {w : World} {B b : Nat} : ∀ {l : List Itm} {o : Nat}, RdIs w B b o l → ∃ cs : List Value, ItC w B cs l ∧ (∀ j u, cs[j]? = some u → w.cell? ⟨b, o + j, none⟩ = some u) ∧ (∀ u ∈ cs, u.oneCell' = true)
  | [], o, _ => ⟨[], trivial, fun j u h => (by simp at h), fun u h => (by cases h)⟩
  | x :: r, o, h => by
    rw [RdIs] at h
    obtain ⟨⟨c0, c1, c2, c3, g0, g1, g2, g3, gx⟩, hr⟩ := h
    obtain ⟨cs, h1, h2, h3⟩ := RdIs.cells hr
    obtain ⟨k, n, A, nd, cd, AL, nl, cl, e⟩ := gx.form
    have hone : c0.oneCell' = true ∧ c1.oneCell' = true ∧ c2.oneCell' = true ∧ c3.oneCell' = true := by
      injection e with e
      simp only [Array.mk.injEq, List.cons.injEq, and_true] at e
      obtain ⟨rfl, rfl, rfl, rfl⟩ := e
      exact ⟨rfl, rfl, rfl, rfl⟩
    refine ⟨c0 :: c1 :: c2 :: c3 :: cs, ⟨gx, h1⟩, ?_, ?_⟩
    · intro j u hj
      match j with
      | 0 => cases hj; exact g0
      | 1 => cases hj; exact g1
      | 2 => cases hj; exact g2
      | 3 => cases hj; exact g3
      | j + 4 =>
        have := h2 j u (by simpa using hj)
        rw [show o + (j + 4) = o + 4 + j by omega]
        exact this
    · intro u hu
      simp only [List.mem_cons] at hu
      rcases hu with rfl | rfl | rfl | rfl | hu
      · exact hone.1
      · exact hone.2.1
      · exact hone.2.2.1
      · exact hone.2.2.2
      · exact h3 u hu
/-- One item of many. -/
theorem ItC.at_ {w : World} {B : Nat} : ∀ {cs : List Value} {xs : List Itm}, ItC w B cs xs → ∀ i (hi : i < xs.length), ∃ c0 c1 c2 c3, cs[i * 4]? = some c0 ∧ cs[i * 4 + 1]? = some c1 ∧ cs[i * 4 + 2]? = some c2 ∧ cs[i * 4 + 3]? = some c3 ∧ RdI w B (.agg #[c0, c1, c2, c3]) (xs[i]'hi) ∧
      ∀ d2 d3 : Value, RdI w B (.agg #[c0, c1, d2, d3]) (xs[i]'hi) → ItC w B ((cs.set (i * 4 + 2) d2).set (i * 4 + 3) d3) xs
  | [], [], _, i, hi => absurd hi (Nat.not_lt_zero _)
  | c0 :: c1 :: c2 :: c3 :: cs, x :: xs, h, 0, _ => ⟨c0, c1, c2, c3, rfl, rfl, rfl, rfl, h.1, fun d2 d3 hd => ⟨hd, h.2⟩⟩
  | c0 :: c1 :: c2 :: c3 :: cs, x :: xs, h, i + 1, hi => by
    obtain ⟨e0, e1, e2, e3, q0, q1, q2, q3, q4, q5⟩ := ItC.at_ h.2 i (by simpa using hi)
    refine ⟨e0, e1, e2, e3, ?_, ?_, ?_, ?_, by simpa using q4, fun d2 d3 hd => ?_⟩
    · rw [show (i + 1) * 4 = i * 4 + 4 by omega]; simpa using q0
    · rw [show (i + 1) * 4 + 1 = i * 4 + 1 + 4 by omega]; simpa using q1
    · rw [show (i + 1) * 4 + 2 = i * 4 + 2 + 4 by omega]; simpa using q2
    · rw [show (i + 1) * 4 + 3 = i * 4 + 3 + 4 by omega]; simpa using q3
    · rw [show (i + 1) * 4 + 2 = i * 4 + 2 + 4 by omega, show (i + 1) * 4 + 3 = i * 4 + 3 + 4 by omega]
      exact ⟨h.1, q5 d2 d3 (by simpa using hd)⟩
  | [], _ :: _, h, _, _ => h.elim
  | [_], _, h, _, _ => by simp [ItC] at h
  | [_, _], _, h, _, _ => by simp [ItC] at h
  | [_, _, _], _, h, _, _ => by simp [ItC] at h
  | _ :: _ :: _ :: _ :: _, [], h, _, _ => h.elim

/-- Blocks g and r alone. -/
def but (g r : Nat) (k : Nat) : Bool := k == g || k == r
theorem but_f {g r k : Nat} : but g r k = false ↔ k ≠ g ∧ k ≠ r := by unfold but; simp

set_option maxRecDepth 100000 in
set_option maxHeartbeats 2000000 in
theorem copied_any (b o n c B : Nat) (l : List Itm) (w : World) (hB : B ≤ w.heap.size) (h : RdIs w B b o l) (hl : l.length = n) (h0 : 0 < n) (hn : n ≤ 1000000) (_hc : n ≤ c) (r : Nat) (hr : B ≤ r) :
    Calls Tryd.prog 45 #[.slice (some ⟨b, o, none⟩) n c] w fun e w' => ∃ g cap cs, e = .returned (.slice (some ⟨g, 0, none⟩) n cap) ∧ w'.ownsRow w.heap.size 27 4 (.slice (some ⟨g, 0, none⟩) n cap) n cs ∧ ItC (mask (but g r) w') w'.heap.size cs l ∧ Below w.heap.size w w' := by
  obtain ⟨i0, hi0, hz0, hz1, hz2⟩ := info_parts info_item
  obtain ⟨cs, n1, n2, n3⟩ := h.cells
  have n0 := n1.len
  rw [hl] at n0
  have N2 : Hid (∀ j u, cs[j]? = some u → w.cell? ((⟨b, o, none⟩ : Addr).add j) = some u) := by
    intro j u hj
    have e : (⟨b, o, none⟩ : Addr).add j = ⟨b, o + j, none⟩ := by unfold Addr.add; split <;> simp_all
    rw [e]
    exact n2 j u hj
  have HO := Lib.hid (World.ownsRow_nil w w.heap.size 27 4)
  have N0 := Lib.hid n0
  have N1 := Lib.hid n1
  have N3 := Lib.hid n3
  have H0 := Lib.hid h0
  have HN := Lib.hid hn
  have HBB := Lib.hid hB
  have HI := Lib.hid hi0
  have HZ0 := Lib.hid hz0
  have HZ1 := Lib.hid hz1
  have HZ2 := Lib.hid hz2
  clear n0 n1 n2 n3 h hB hi0 hz0 hz1 hz2 h0 hn hl
  go_enter Tryd.func45, Tryd.ntmps45
  go_wp2_with (first
    | (at_builtin; refine wpList_append_lies _ rfl (.const (.slice none 0 0)) (.tmp 3) 25 rfl w.heap.size 27 i0 _ 4 64 Tryd.underlying25 HI.out HZ0.out HZ1.out HZ2.out rfl (by decide) _ 0 [] rfl HO.out ⟨b, o, none⟩ n c cs rfl N0.out N2.out N3.out H0.out (by have := HN.out; unfold maxLen; omega) (by have := HN.out; omega) (Nat.le_refl _) _ rfl ?_; intro g cap w1 ho1 hg1 hat hlt; have O1 := Lib.hid ho1; have HG1 := Lib.hid hg1; clear ho1 hg1 hat hlt)
    | fail)
  go_ret
  have ho := O1.out
  rw [Nat.zero_add, List.nil_append] at ho
  have hb : Below w.heap.size w w1 := (Below.refl _ _).grown HG1.out (Nat.le_refl _) (fun k hk => by cases hk)
  have hg := (ho.lt g rfl).1
  refine ⟨g, cap, cs, by simp, ho, N1.out.sub (Nat.le_trans HBB.out hb.size) (fun p u hp hc => ?_), hb⟩
  have hp' : p.block < w.heap.size := Nat.lt_of_lt_of_le hp HBB.out
  rw [mask_cell (but_f.2 ⟨by omega, by omega⟩), hb.cell hp']
  exact hc

/-- append, where its run is known and leaves the world. -/
theorem wpList_appEq {P : Program} {w : World} {ops : Array Oper} {rest : List Oper} {o : Oper} {a : Act} {Q : Exit → Act → World → Prop} (hgd : o.guard = none) (s x : Operand) (t : TypeId)
    (ho : o.op = .call { callee := .builtin .append, args := #[s, x], argTypes := #[t, t] }) (v1 v2 v : Value) (hs : a.eval s = v1) (hx : a.eval x = v2)
    (hr : (Builtin.append_ #[t, t] o.type #[v1, v2]).run P w = .ok v w) (h : wpList P ops Q rest (a.put o.dst v) w) : wpList P ops Q (o :: rest) a w := by
  refine wpList_plain hgd fun K hK => ?_
  unfold Oper.wp execOp
  simp only [ho, resolve, invoke, builtin, Sem.run_bind, Sem.run_pure, Result.andThen_ok, List.map_toArray, List.map_cons, List.map_nil, hs, hx, hr]
  exact hK _ _ h

set_option maxRecDepth 100000 in
set_option maxHeartbeats 2000000 in
theorem copied_nil (A : Option Addr) (c : Nat) (w : World) :
    Calls Tryd.prog 45 #[.slice A 0 c] w fun e w' => e = .returned (.slice none 0 0) ∧ w = w' := by
  obtain ⟨i0, hi0, hz0, hz1, hz2⟩ := info_parts info_item
  have hu := Tryd.underlying25
  have hr : (Builtin.append_ #[25, 25] 25 #[.slice none 0 0, .slice A 0 c]).run Tryd.prog w = .ok (.slice none 0 0) w := by
    rcases A with _ | a
    · simp [Builtin.append_, run_underlying hu, sizeOf, typeInfo, hi0, Builtin.lenOf, Builtin.firstCells]
    · have hlc : (loadCells a 0).run Tryd.prog w = .ok #[] w := by
        have := run_loadCells_list (P := Tryd.prog) w a [] (fun j v hj => by simp at hj)
        simpa using this
      simp [Builtin.append_, run_underlying hu, sizeOf, typeInfo, hi0, Builtin.lenOf, Builtin.firstCells, hlc]
  have HR := Lib.hid hr
  clear hi0 hz0 hz1 hz2 hu hr
  go_enter Tryd.func45, Tryd.ntmps45
  go_wp2_with (first
    | (at_builtin; refine wpList_appEq rfl (.const (.slice none 0 0)) (.tmp 3) 25 rfl _ _ _ rfl rfl HR.out ?_)
    | fail)
  go_ret
  exact ⟨rfl, rfl⟩

/-- A copied list while its items' data are copied. -/
structure ClSt (r : Nat) (w wr : World) (g cap n gw : Nat) (l : List Itm) (cs : List Value) : Prop where
  own : wr.ownsRow w.heap.size 27 4 (.slice (some ⟨g, 0, none⟩) n cap) n cs
  its : ItC (mask (but g r) wr) wr.heap.size cs l
  bel : Below w.heap.size w wr
  hw : wr.cell? ⟨gw, 0, none⟩ = some (.slice (some ⟨g, 0, none⟩) n cap)
  ne : gw ≠ g
section
variable {w wr w1 : World} {r g cap n gw : Nat} {l : List Itm} {cs : List Value}
theorem ClSt.lt (h : ClSt r w wr g cap n gw l cs) : w.heap.size ≤ g ∧ g < wr.heap.size := World.ownsRow.lt h.own g rfl
/-- New blocks are laid. -/
theorem ClSt.on (h : ClSt r w wr g cap n gw l cs) (hb : Below wr.heap.size wr w1) : ClSt r w w1 g cap n gw l cs :=
  ⟨ownsRow_below h.own hb, h.its.mask_go hb.size (fun k hk _ => hb.block k hk) (fun _ _ hs => hs), h.bel.trans (hb.mono h.bel.size), (hb.cell (p := ⟨gw, 0, none⟩) (World.block_lt_of_cell? wr _ h.hw)).trans h.hw, h.ne⟩
/-- One item's data and list are stored anew. -/
theorem ClSt.put (h : ClSt r w wr g cap n gw l cs) (i : Nat) (d2 d3 : Value) (hits : ItC (mask (but g r) wr) wr.heap.size ((cs.set (i * 4 + 2) d2).set (i * 4 + 3) d3) l) :
    ClSt r w ((wr.setCell ⟨g, i * 4 + 2, none⟩ d2).setCell ⟨g, i * 4 + 3, none⟩ d3) g cap n gw l ((cs.set (i * 4 + 2) d2).set (i * 4 + 3) d3) := by
  have hg := h.lt.1
  refine ⟨(World.ownsRow.stored (World.ownsRow.stored h.own _ _).1 _ _).1, hits.mask_go (by simp [World.setCell]) (fun k _ hk => ?_) (fun _ _ hs => hs), (h.bel.setCell (p := ⟨g, i * 4 + 2, none⟩) hg _).setCell (p := ⟨g, i * 4 + 3, none⟩) hg _, ?_, h.ne⟩
  · have hk' := (but_f.1 hk).1
    rw [Below.heap_setCell _ _ _ _ hk', Below.heap_setCell _ _ _ _ hk']
  · rw [World.cell?_setCell_far _ _ _ _ (fun e => h.ne e.symm), World.cell?_setCell_far _ _ _ _ (fun e => h.ne e.symm)]
    exact h.hw
theorem RdI.flat {B nd cd : Nat} {A : Option Addr} {d : List UInt8} {k : Int} {m : Nat} (hk : (Lit.int .i64 k).wf = true) (hm : m < 18446744073709551616) (hc : nd ≤ cd) (hc2 : nd ≤ 140737488355328) (h : Rd w B A nd d) : RdI w B (.agg #[.int .i64 k, .int .u64 (m : Int), .slice A nd cd, .slice none 0 0]) (.mk k m d []) := by
  rw [RdI]
  exact ⟨A, nd, cd, none, 0, 0, rfl, hk, hm, ⟨hc, hc2⟩, h, ⟨Nat.le_refl _, by decide⟩, rfl, fun h => absurd h (Nat.lt_irrefl _)⟩

set_option maxRecDepth 100000 in
set_option maxHeartbeats 4000000 in
theorem clone_flat (b o n c B : Nat) (l : List Itm) (w : World) (hB : B ≤ w.heap.size) (h : RdIs w B b o l) (hl : l.length = n) (h0 : 0 < n) (hn : n ≤ 1000000) (hc : n ≤ c) (hflat : ∀ x ∈ l, x.list = []) (r : Nat) (hr : B ≤ r) (hr2 : r < w.heap.size) :
    Calls Tryd.prog 38 #[.slice (some ⟨b, o, none⟩) n c] w fun e w' => ∃ g cap gw cs, e = .returned (.slice (some ⟨g, 0, none⟩) n cap) ∧ ClSt r w w' g cap n gw l cs := by
  have C0 := Lib.hid (copied_any b o n c B l w hB h hl h0 hn hc r hr)
  have HN := Lib.hid hn
  have HL := Lib.hid hl
  have HF := Lib.hid hflat
  have C2 := Lib.hid (fun A c W => copied_nil A c W)
  have HR2 := Lib.hid hr2
  clear h hB hc hflat hl hr hr2
  go_enter Tryd.func38, Tryd.ntmps38
  go_wp2_with fail
  refine C0.out.mono ?_
  rintro e w1 ⟨g, cap, cs, rfl, ho, hit, hb⟩
  have hglt := World.ownsRow.lt ho g rfl
  have hcst : ClSt r w (w1.alloc (.cells #[.slice (some ⟨g, 0, none⟩) n cap] 25)) g cap n w1.heap.size l cs :=
    ⟨World.ownsRow.alloc ho _, hit.mask_go (le_alloc _ _) (fun k hk _ => Below.heap_alloc _ _ _ hk) (fun _ _ hs => hs), hb.alloc hb.size _, by simp, by omega⟩
  have HC := Lib.hid hcst
  clear ho hit hb hglt hcst C0
  go_wp2_with fail
  generalize hgw : w1.heap.size = gw at *
  clear hgw
  go_loopw [4] (fun wv wr => ∃ (q : Nat) (cs : List Value), q ≤ 1 ∧ wv = .slice (some ⟨gw, 0, none⟩) q 1 ∧ Hid (ClSt r w wr g cap n gw l cs)) (fun wv _ => lenV wv)
  case atStart => exact ⟨1, cs, Nat.le_refl _, rfl, HC.out⟩
  case round =>
    obtain ⟨q, cs, hq, rfl, hst⟩ := hrel
    rcases (show q = 0 ∨ q = 1 by omega) with rfl | rfl
    · go_wp2_with fail
      go_ret
      exact ⟨g, cap, gw, cs, rfl, hst.out⟩
    · have hw := hst.out.hw
      have hcut : ∀ W : World, (Instr.slice 69 (.slice (some ⟨gw, 0, none⟩) 1 1) none (some (.int .i64 0)) none).run Tryd.prog W = .ok (.slice (some ⟨gw, 0, none⟩) 0 1) W := fun W => cut_open (g := gw) (m := 0) (cap := 1) (Nat.le_refl _) W
      go_wp2_with fail
      go_loopw [4, 28] (fun wv iv wr => ∃ (i : Nat) (cs : List Value), i ≤ n ∧ wv = .slice (some ⟨gw, 0, none⟩) 0 1 ∧ iv = .int .i64 (i : Int) ∧ Hid (ClSt r w wr g cap n gw l cs)) (fun _ iv _ => n - (intOf iv).toNat)
      case atStart => exact ⟨0, cs, Nat.zero_le _, rfl, rfl, hst.out⟩
      case round =>
        clear hw hcut hst
        obtain ⟨i, cs, hi, rfl, rfl, hst⟩ := hrel
        by_cases hlt : i < n
        · have hil : i < l.length := by rw [HL.out]; exact hlt
          obtain ⟨c0, c1, c2, c3, k0, k1, k2, k3, gx, hset⟩ := hst.out.its.at_ i hil
          have hmem : (l[i]'hil) ∈ l := List.getElem_mem hil
          have hfl := HF.out _ hmem
          obtain ⟨kk, m, d, ll, hx⟩ : ∃ kk m d ll, (l[i]'hil) = Itm.mk kk m d ll := (fun (x : Itm) => (match x with | .mk a b c d => ⟨a, b, c, d, rfl⟩ : ∃ kk m d ll, x = Itm.mk kk m d ll)) _
          rw [hx] at gx hfl hset
          have hll : ll = [] := hfl
          subst hll
          obtain ⟨A, nd, cd, AL, cl, he, hkw, hm, hd, hrd, -, -⟩ := gx.open
          injection he with he
          simp only [Array.mk.injEq, List.cons.injEq, and_true] at he
          obtain ⟨rfl, rfl, rfl, rfl⟩ := he
          have hlen := hst.out.own.1
          have f2 := World.ownsRow.frozenAt hst.out.own (i * 4 + 2)
          have f3 := World.ownsRow.frozenAt hst.out.own (i * 4 + 3)
          have e2 : wr.cell? ⟨g, i * 4 + 2, none⟩ = some (.slice A nd cd) := (World.ownsRow.cellAt hst.out.own (i * 4 + 2) (by omega)).trans k2
          have e3 : wr.cell? ⟨g, i * 4 + 3, none⟩ = some (.slice AL 0 cl) := (World.ownsRow.cellAt hst.out.own (i * 4 + 3) (by omega)).trans k3
          have C1 := Lib.hid (bclone_any A nd cd wr.heap.size d wr.drew (Nat.le_refl _) (hrd.sub (B' := wr.heap.size) (by rw [← mask_size (S := but g r) (w := wr)]; exact Nat.le_refl _) (fun q u _ hq => mask_sub hq)) hd.2)
          have HX := Lib.hid hx
          have HK0 := Lib.hid k0
          have HK1 := Lib.hid k1
          have HIL := Lib.hid hil
          have HRL := Lib.hid hrd.1
          have HD := Lib.hid hd
          have HLT := Lib.hid hst.out.lt.2
          have i0' : (0 : Int) ≤ (i : Int) := by omega
          have i1' : (i : Int) < (n : Int) := by omega
          clear gx hset hrd hx hfl hmem k0 k1 k2 k3 hlen hd
          go_wp2_with fail
          go_region_with
            (first
              | (go_at_call 45; refine (C2.out _ _ _).mono ?_; rintro e w9 ⟨rfl, rfl⟩)
              | (go_at_call 37; refine C1.out.mono ?_; rintro e w8 ⟨v, rfl, ho8, hb8⟩; obtain ⟨A8, c8, rfl, hc8, hm8, -⟩ := ho8.rdn HRL.out; have HO8 := Lib.hid ho8; have HC8 := Lib.hid hc8; have HB8 := Lib.hid ((Below.drew_ (B := wr.heap.size) (w := wr)).trans hb8); have q2 := (hb8.cell (p := ⟨g, i * 4 + 2, none⟩) HLT.out).trans e2; have q3 := (hb8.cell (p := ⟨g, i * 4 + 3, none⟩) HLT.out).trans e3; have p2 := (hb8.frozen (p := ⟨g, i * 4 + 2, none⟩) HLT.out).trans f2; have p3 := (hb8.frozen (p := ⟨g, i * 4 + 3, none⟩) HLT.out).trans f3; clear ho8 hc8 hb8)
              | fail)
          all_goals
            have hst8 := hst.out.on HB8.out
            obtain ⟨d0, d1, d2, d3, m0, m1, -, -, -, hset8⟩ := hst8.its.at_ i HIL.out
            have hd0 := m0.symm.trans HK0.out
            have hd1 := m1.symm.trans HK1.out
            injection hd0 with hd0
            injection hd1 with hd1
            subst hd0 hd1
            rw [HX.out] at hset8
            have hnew : RdI (mask (but g r) w8) w8.heap.size (.agg #[.int .i64 kk, .int .u64 (m : Int), .slice A8 nd c8, .slice none 0 0]) (.mk kk m d []) :=
              RdI.flat hkw hm HC8.out HD.out.2 (HO8.out.news.mask_go (Nat.le_refl _) (fun _ _ _ => rfl) (fun k _ hk => but_f.2 (by have h1 : wr.heap.size ≤ k := lows_f.1 hk; have h2 := HLT.out; have h3 := HR2.out; have h4 := hst.out.bel.size; omega)))
            have hput := hst8.put i _ _ (hset8 _ _ hnew)
            have s3 : ((w8.setCell ⟨g, i * 4 + 2, none⟩ (.slice A8 nd c8)).setCell ⟨g, i * 4 + 3, none⟩ (.slice none 0 0)).cell? ⟨g, i * 4 + 3, none⟩ = some (.slice none 0 0) := by
              refine World.cell?_setCell_same _ _ _ (u := .slice AL 0 cl) ?_
              rw [World.cell?_setCell_other _ _ _ _ (fun e => by injection e with _ e2; omega)]
              exact q3
            have HPUT := Lib.hid hput
            clear hst8 m0 m1 hset8 hnew hput q2 q3 p2 p3
            go_wp2_with fail
            go_roundw
            case rel => exact ⟨i + 1, _, by omega, rfl, by go_num, HPUT.out⟩
            case measure => simp [intOf]; omega
        · obtain rfl : i = n := by omega
          go_wp2_with fail
          go_roundw
          case rel => exact ⟨0, cs, by omega, rfl, hst.out⟩
          case measure => simp [lenV]

set_option maxRecDepth 100000 in
set_option maxHeartbeats 1000000 in
/-- Array of items without lists of their own. -/
theorem carray_flat (b o n c B : Nat) (l : List Itm) (w : World) (hB : B ≤ w.heap.size) (hb : b < B) (h : RdIs w B b o l) (hl : l.length = n) (h0 : 0 < n) (hn : n ≤ 1000000) (hc : n ≤ c) (hflat : ∀ x ∈ l, x.list = []) :
    Calls Tryd.prog 22 #[.slice (some ⟨b, o, none⟩) n c] w (GivesI (.mk 4 0 [] l) w) := by
  have C1 := Lib.hid (clone_flat b o n c B l (w.alloc (.cells #[.int .i64 0, .int .u64 0, .slice none 0 0, .slice none 0 0] 27)) (Nat.le_trans hB (le_alloc _ _)) (h.below hb ((Below.refl _ _).alloc hB _)) hl h0 hn hc hflat w.heap.size hB (by simp))
  have HL := Lib.hid hl
  have HN := Lib.hid hn
  clear h hl hn hc hflat hB hb
  go_enter Tryd.func22, Tryd.ntmps22
  go_wp2_with fail
  refine C1.out.mono ?_
  rintro e w1 ⟨g, cap, gw, cs, rfl, hst⟩
  have hb' := to_box hst.bel
  obtain ⟨⟨z0, z1, z2, z3⟩, f0, f1, f2, f3⟩ := zero_cells hb'
  have B1 := Lib.hid hb'
  have HST := Lib.hid hst
  clear hst hb'
  go_wp2_with fail
  have hglt := HST.out.lt
  simp at hglt
  have hown := HST.out.own
  have hcap : n ≤ cap := by
    rcases hown.2 with ⟨hv, _⟩ | ⟨g', cap', cur, hv, _, _, hnc, _⟩
    · cases hv
    · injection hv with _ _ h3
      omega
  refine bodyPost_ret (v := .agg #[.int .i64 4, .int .u64 0, .slice none 0 0, .slice (some ⟨g, 0, none⟩) n cap]) (by simp [results, Tryd.results22, go_sem, z0, z1, z2, z3]) rfl ⟨_, rfl, ?_, below_set4 (((Below.refl _ _).alloc (Nat.le_refl _) _).trans (B1.out.mono (Nat.le_succ _))) (Nat.le_refl _)⟩
  have hgr : g ≠ w.heap.size := by omega
  refine RdI.mk_list (by decide) hcap (by have := HN.out; omega) HL.out (by simp [World.setCell]; exact hglt.2) (ItC.lie (HST.out.its.sub (by simp [World.setCell]) (fun q u _ hc => ?_)) (fun j u hj => ?_))
  · have hq := (but_f.1 (mask_out hc)).2
    rw [World.cell?_setCell_far _ _ _ _ (fun e => hq e.symm), World.cell?_setCell_far _ _ _ _ (fun e => hq e.symm), World.cell?_setCell_far _ _ _ _ (fun e => hq e.symm), World.cell?_setCell_far _ _ _ _ (fun e => hq e.symm)]
    exact mask_sub hc
  · have hjl : j < n * 4 := by
      rw [← hown.1]
      rcases Nat.lt_or_ge j cs.length with h | h
      · exact h
      · rw [List.getElem?_eq_none h] at hj; cases hj
    rw [Nat.zero_add, World.cell?_setCell_far _ _ _ _ (fun e => hgr e.symm), World.cell?_setCell_far _ _ _ _ (fun e => hgr e.symm), World.cell?_setCell_far _ _ _ _ (fun e => hgr e.symm), World.cell?_setCell_far _ _ _ _ (fun e => hgr e.symm), World.ownsRow.cellAt hown j hjl]
    exact hj
end
end Go.Proofs.YtcbolbdfdapidaaDoor
