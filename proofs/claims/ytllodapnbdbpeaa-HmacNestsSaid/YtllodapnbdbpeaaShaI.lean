/- What a digest on its way takes (layer 7): words for parts that are nowhere touched, a state stored at the head of a digest; no walk yet. -/
import Derived.Test.YtllodapnbdbpeaaShaH
import Derived.Deep.RegionHeld3
namespace Go.Proofs.Ytllodapnbdbpeaa
open Go.RowKit

/-- A slice reads as l; it lies in a block of which F tells. -/
def RdF (w : World) (F : Nat → Prop) (A : Option Addr) (n : Nat) (l : List UInt8) : Prop :=
  l.length = n ∧ (0 < n → ∃ b o, A = some ⟨b, o, none⟩ ∧ F b ∧ ∀ i, i < n → w.cell? ⟨b, o + i, none⟩ = some (.int .u8 ((l.getD i 0).toNat : Int)))
section
variable {w w' : World} {F G : Nat → Prop} {n k : Nat} {A : Option Addr} {l : List UInt8}
theorem RdF.keep (h : RdF w F A n l) (hk : ∀ b, F b → w'.heap[b]? = w.heap[b]?) : RdF w' F A n l :=
  ⟨h.1, fun hn => by
    obtain ⟨b, o, e, hb, hc⟩ := h.2 hn
    refine ⟨b, o, e, hb, fun i hi => ?_⟩
    rw [← hc i hi]
    simp only [World.cell?]
    rw [hk b hb]⟩
theorem RdF.rd (h : RdF w F A n l) {B : Nat} (hF : ∀ b, F b → b < B) : Rd w B A n l :=
  ⟨h.1, fun hn => by
    obtain ⟨b, o, e, hb, hc⟩ := h.2 hn
    exact ⟨b, o, e, hF b hb, hc⟩⟩
theorem Rd.rdF {B : Nat} (h : Rd w B A n l) (hF : ∀ b, b < B → F b) : RdF w F A n l :=
  ⟨h.1, fun hn => by
    obtain ⟨b, o, e, hb, hc⟩ := h.2 hn
    exact ⟨b, o, e, hF b hb, hc⟩⟩
theorem RdF.imp (h : RdF w F A n l) (hF : ∀ b, F b → G b) : RdF w G A n l :=
  ⟨h.1, fun hn => by
    obtain ⟨b, o, e, hb, hc⟩ := h.2 hn
    exact ⟨b, o, e, hF b hb, hc⟩⟩
theorem RdF.cut (h : RdF w F A n l) : RdF w F (A.map (·.add k)) (n - k) (l.drop k) := by
  refine ⟨by rw [List.length_drop, h.1], fun hn => ?_⟩
  obtain ⟨b, o, rfl, hb, hc⟩ := h.2 (by omega)
  refine ⟨b, o + k, by unfold Addr.add; simp, hb, fun i hi => ?_⟩
  rw [Nat.add_assoc, hc (k + i) (by omega)]
  simp [List.getD, List.getElem?_drop]
theorem RdF.nil_ : RdF w F A 0 [] := ⟨rfl, fun h => absurd h (by omega)⟩
theorem RdF.take (h : RdF w F A n l) (hk : k ≤ n) : RdF w F A k (l.take k) := by
  have hl := h.1
  refine ⟨by rw [List.length_take]; omega, fun hn => ?_⟩
  obtain ⟨b, o, e, hb, hc⟩ := h.2 (by omega)
  refine ⟨b, o, e, hb, fun i hi => ?_⟩
  rw [hc i (by omega)]
  simp [List.getD, hi]
end
theorem cutF_l {P : Program} {w : World} {F : Nat → Prop} {n : Nat} {A : Option Addr} {l : List UInt8} (t e : TypeId) (ht : P.underlying t = some (.slice e)) (hz : ∀ W : World, (sizeOf e).run P W = .ok 1 W) (c : Nat) (h : RdF w F A n l) (x : Int) (k : Nat) (hx : x = (k : Int)) (hk : k ≤ n) (hc : n ≤ c) :
    ∃ A' c', (∀ W : World, (Instr.slice t (.slice A n c) (some (.int .i64 x)) none none).run P W = .ok (.slice A' (n - k) c') W) ∧ n - k ≤ c' ∧ c' ≤ c ∧ RdF w F A' (n - k) (l.drop k) := by
  subst hx
  by_cases hck : c = k
  · refine ⟨A, c - k, fun W => ?_, by omega, by omega, ?_⟩
    · subst hck
      go_simp
    · have hl := h.1
      have e : n - k = 0 := by omega
      rw [e, List.drop_eq_nil_of_le (by omega)]
      exact RdF.nil_
  · refine ⟨A.map (·.add k), c - k, fun W => ?_, by omega, by omega, h.cut⟩
    go_simp
theorem cutF_h {P : Program} {w : World} {F : Nat → Prop} {n : Nat} {A : Option Addr} {l : List UInt8} (t e : TypeId) (ht : P.underlying t = some (.slice e)) (hz : ∀ W : World, (sizeOf e).run P W = .ok 1 W) (c : Nat) (h : RdF w F A n l) (x : Int) (k : Nat) (hx : x = (k : Int)) (hk : k ≤ n) (hc : n ≤ c) :
    ∃ A' c', (∀ W : World, (Instr.slice t (.slice A n c) none (some (.int .i64 x)) none).run P W = .ok (.slice A' k c') W) ∧ k ≤ c' ∧ c' ≤ c ∧ RdF w F A' k (l.take k) := by
  subst hx
  by_cases hc0 : c = 0
  · have hk0 : k = 0 := by omega
    subst hk0 hc0
    refine ⟨A, 0, fun W => ?_, by omega, by omega, h.take hk⟩
    go_simp
  · refine ⟨A, c, fun W => ?_, by omega, by omega, h.take hk⟩
    go_simp
    intro h
    omega

/-- A part, and parts in a row. -/
structure Pt where
  A : Option Addr
  n : Nat
  c : Nat
  l : List UInt8
def PtOk (w : World) (F : Nat → Prop) (p : Pt) : Prop := RdF w F p.A p.n p.l ∧ p.n ≤ p.c ∧ p.c ≤ 9223372036854775807
def PtsF (w : World) (F : Nat → Prop) (A : Option Addr) (n : Nat) (ps : List Pt) : Prop :=
  ps.length = n ∧ (0 < n → ∃ b o, A = some ⟨b, o, none⟩ ∧ F b ∧ ∀ i p, ps[i]? = some p → w.cell? ⟨b, o + i, none⟩ = some (.slice p.A p.n p.c)) ∧ ∀ p ∈ ps, PtOk w F p
def catP (ps : List Pt) : List UInt8 := ps.flatMap Pt.l
theorem PtsF.keep {w w' : World} {F : Nat → Prop} {A : Option Addr} {n : Nat} {ps : List Pt} (h : PtsF w F A n ps) (hk : ∀ b, F b → w'.heap[b]? = w.heap[b]?) : PtsF w' F A n ps :=
  ⟨h.1, fun hn => by
    obtain ⟨b, o, e, hb, hc⟩ := h.2.1 hn
    refine ⟨b, o, e, hb, fun i p hp => ?_⟩
    rw [← hc i p hp]
    simp only [World.cell?]
    rw [hk b hb], fun p hp => ⟨(h.2.2 p hp).1.keep hk, (h.2.2 p hp).2⟩⟩
theorem catP_step {ps : List Pt} {i : Nat} {p : Pt} (h : ps[i]? = some p) : catP (ps.take (i + 1)) = catP (ps.take i) ++ p.l := by
  obtain ⟨hl, rfl⟩ := List.getElem?_eq_some_iff.1 h
  unfold catP
  rw [List.take_succ_eq_append_getElem hl, List.flatMap_append]
  simp

/-! ### What waits, and the state -/
def wtL (T : List UInt8) : List UInt8 := T.drop (64 * (T.length / 64))
def stL (T : List UInt8) : St := blks st0 T (T.length / 64)
theorem wtL_length (T : List UInt8) : (wtL T).length = T.length % 64 := by
  rw [wtL, List.length_drop]; omega
theorem stL_more (T x : List UInt8) (h : (wtL T).length + x.length < 64) : stL (T ++ x) = stL T ∧ wtL (T ++ x) = wtL T ++ x := by
  rw [wtL_length] at h
  have e : (T ++ x).length / 64 = T.length / 64 := by rw [List.length_append]; omega
  refine ⟨?_, ?_⟩
  · unfold stL
    rw [e, blks_app st0 T x _ (by omega)]
  · unfold wtL
    rw [e, List.drop_append_of_le_length (by omega)]
theorem stL_full (T x : List UInt8) (h : (wtL T).length + x.length = 64) : stL (T ++ x) = nxt (stL T) (wtL T ++ x) ∧ wtL (T ++ x) = [] := by
  rw [wtL_length] at h
  have hd := wtL_length T
  have e : (T ++ x).length / 64 = T.length / 64 + 1 := by rw [List.length_append]; omega
  refine ⟨?_, ?_⟩
  · unfold stL
    rw [e, blks, blks_app st0 T x _ (by omega), List.drop_append_of_le_length (by omega)]
    congr 1
    rw [List.take_of_length_le]
    · rfl
    · show (wtL T ++ x).length ≤ 64
      rw [List.length_append]; omega
  · unfold wtL
    rw [e]
    apply List.drop_eq_nil_of_le
    rw [List.length_append]; omega

theorem Ob.rd_n {w : World} {base n : Nat} {t : TypeId} {v : Value} {l : List UInt8} (h : Ob w base t v l) (hl : l.length = n) : ∃ (A : Option Addr) (c : Nat), v = .slice A n c ∧ n ≤ c ∧ c ≤ maxLen ∧ Rd w w.heap.size A n l := by
  subst hl
  exact h.rd
/-- A state stored at the head of a digest. -/
theorem wpList_stHead {ops : Array Oper} {rest : List Oper} {o : Oper} {a : Act} {w : World} {Q : Exit → Act → World → Prop} (hgd : o.guard = none) (x y : Operand) (ho : o.op = .store 48 x y)
    (g : Nat) (s s' : St) (v : Value) (z : Nat) (hx : a.eval x = .pointer (some ⟨g, 0, none⟩)) (hy : a.eval y = .agg (wc s'.list).toArray) (hg : Dg w g s v z)
    (h : ∀ W' : World, Dg W' g s' v z → (∀ k, k ≠ g → W'.heap[k]? = w.heap[k]?) → (∀ (B : Nat) (w0 : World), Below B w0 w → B ≤ g → Below B w0 W') → W'.heap.size = w.heap.size → wpList Try.prog ops Q rest (a.put o.dst undef) W') :
    wpList Try.prog ops Q (o :: rest) a w := by
  have hrun := run_storeCells_at (P := Try.prog) g 0 51 (wc s'.list) 0 _ w hg (by show 0 + 0 + 8 ≤ 10; decide) (fun v hv => by obtain ⟨x, _, rfl⟩ := List.mem_map.1 hv; rfl)
  have e : ((dgC s v z).toList.take (0 + 0) ++ wc s'.list ++ (dgC s v z).toList.drop (0 + 0 + (wc s'.list).length)).toArray = dgC s' v z := rfl
  rw [e] at hrun
  have hv : (storeVar 48 ⟨g, 0, none⟩ (.agg (wc s'.list).toArray)).run Try.prog w = .ok () (w.setRow g (dgC s' v z)) := by
    have hi := info8
    cases hq : Try.prog.info? 48 with
    | none => simp [hq] at hi
    | some i =>
      have hs : i.size = 8 := by simpa [hq] using hi
      have h8 : (wc s'.list).toArray.size = 8 := by rw [List.size_toArray, wc_length]; rfl
      simp [storeVar, sizeOf, typeInfo, hq, Value.cells, hs, hrun]
      rw [show (wc s'.list).length = 8 by rw [wc_length]; rfl]
  refine wpList_plain hgd fun K hK => ?_
  unfold Oper.wp execOp
  simp only [ho, hx, hy, Instr.storeAt, Instr.sureAddr, Sem.run_bind, Sem.run_pure, Result.andThen_ok, hv]
  exact hK _ _ (h _ (setRow_heap w g _ _ _ _ hg) (fun k hk => setRow_other w g k _ hk) (fun _ _ hb hB => below_setRow hb hB _) (setRow_size w g _))
/-- The same at a step of a region that draws its order. -/
theorem step_stHead {ops : Array Oper} {o : Oper} {a : Act} {w : World} {K : Act → World → Prop} {Q : Exit → Act → World → Prop} {E : Prop} (hgd : o.guard = none) (x y : Operand) (ho : o.op = .store 48 x y)
    (g : Nat) (s s' : St) (v : Value) (z : Nat) (hx : a.eval x = .pointer (some ⟨g, 0, none⟩)) (hy : a.eval y = .agg (wc s'.list).toArray) (hg : Dg w g s v z)
    (h : ∀ W' : World, Dg W' g s' v z → (∀ k, k ≠ g → W'.heap[k]? = w.heap[k]?) → (∀ (B : Nat) (w0 : World), Below B w0 w → B ≤ g → Below B w0 W') → W'.heap.size = w.heap.size → K (a.put o.dst undef) W') :
    if Region.wanted o (yielded ops a.tmps) = true then Oper.wp Try.prog o a w K Q else E := by
  have hw : Region.wanted o (yielded ops a.tmps) = true := by simp [Region.wanted, hgd]
  rw [if_pos hw]
  have hrun := run_storeCells_at (P := Try.prog) g 0 51 (wc s'.list) 0 _ w hg (by show 0 + 0 + 8 ≤ 10; decide) (fun v hv => by obtain ⟨x, _, rfl⟩ := List.mem_map.1 hv; rfl)
  have e : ((dgC s v z).toList.take (0 + 0) ++ wc s'.list ++ (dgC s v z).toList.drop (0 + 0 + (wc s'.list).length)).toArray = dgC s' v z := rfl
  rw [e] at hrun
  have hv : (storeVar 48 ⟨g, 0, none⟩ (.agg (wc s'.list).toArray)).run Try.prog w = .ok () (w.setRow g (dgC s' v z)) := by
    have hi := info8
    cases hq : Try.prog.info? 48 with
    | none => simp [hq] at hi
    | some i =>
      have hs : i.size = 8 := by simpa [hq] using hi
      have h8 : (wc s'.list).toArray.size = 8 := by rw [List.size_toArray, wc_length]; rfl
      simp [storeVar, sizeOf, typeInfo, hq, Value.cells, hs, hrun]
      rw [show (wc s'.list).length = 8 by rw [wc_length]; rfl]
  unfold Oper.wp execOp
  simp only [ho, hx, hy, Instr.storeAt, Instr.sureAddr, Sem.run_bind, Sem.run_pure, Result.andThen_ok, hv]
  exact h _ (setRow_heap w g _ _ _ _ hg) (fun k hk => setRow_other w g k _ hk) (fun _ _ hb hB => below_setRow hb hB _) (setRow_size w g _)
theorem takeWS {P : Program} {md : Region.Mode} {l : List Oper} {Q : Exit → Act → World → Prop} {S : World → Prop} {i : Nat} {oi : Oper} {v : Value} {fuel : Nat} {listed : Array Bool} {a : Act} {w : World} (hi : l[i]? = some oi)
    (hs : Region.noSelect l.toArray = true) (hf : Region.free md l.toArray listed i = true) (hr : (Region.ready md l.toArray listed).contains i = true)
    (hQ : ∀ c a w, Q (.panic c) (a.put oi.dst v) w → Q (.panic c) a w) (hw : Region.wanted oi (yielded l.toArray a.tmps) = true) (hy : ∀ w, S w → (execOp a.eval oi).run P w = .ok (.value v) w) (hS : S w)
    (h : wpAnyH P md l.toArray Q S fuel (listed.setIfInBounds i true) (a.put oi.dst v) w) : wpAnyH P md l.toArray Q S (fuel + 1) listed a w :=
  wpAnyH_take (oi := oi) (v := v) (by simpa using hi) hs hf hr hQ (Or.inl ⟨hw, hy⟩) hS h
theorem step_appH {P : Program} {w : World} {ops : Array Oper} {o : Oper} {a : Act} {K : Act → World → Prop} {Q : Exit → Act → World → Prop} {E : Prop} (hgd : o.guard = none) (s x : Operand) (t : TypeId)
    (ho : o.op = .call { callee := .builtin .append, args := #[s, x], argTypes := #[t, t] })
    (base : Nat) (e : TypeId) (ht : P.underlying t = some (.slice e)) (hinfo : (P.info? e).map (fun i => (i.zero, i.size, i.bytes)) = some (some (.int .u8 0), 1, 1))
    (v : Value) (l : List UInt8) (hs : a.eval s = v) (hown : Ob w base e v l) (B : Nat) (A : Option Addr) (m c : Nat) (news : List UInt8) (hx : a.eval x = .slice A m c) (hr : Rd w B A m news)
    (hbound : l.length + m ≤ 140737488355328) (hbase : base ≤ w.heap.size)
    (h : ∀ v' w', Ob w' base e v' (l ++ news) → w.grownBy w' v.ownBlock → (v'.ownBlock = v.ownBlock ∨ v'.ownBlock = some w.heap.size) → K (a.put o.dst v') w') : if Region.wanted o (yielded ops a.tmps) = true then Oper.wp P o a w K Q else E := by
  have hw : Region.wanted o (yielded ops a.tmps) = true := by simp [Region.wanted, hgd]
  rw [if_pos hw]
  obtain ⟨v', w', hrun, h2, h3, h4⟩ := run_app (P := P) w base t o.type e ht hinfo v l hown B A m c news hr hbound hbase
  unfold Oper.wp execOp
  simp only [ho, resolve, invoke, builtin, Sem.run_bind, Sem.run_pure, Result.andThen_ok, List.map_toArray, List.map_cons, List.map_nil, hs, hx, hrun]
  exact h v' w' h2 h3 h4
theorem Ob.of_heap {w w' : World} {base : Nat} {t : TypeId} {v : Value} {l : List UInt8} (h : Ob w base t v l) (hk : ∀ k, v.ownBlock = some k → w'.heap[k]? = w.heap[k]?) : Ob w' base t v l :=
  ⟨h.1, h.2.imp id (fun ⟨g, cap, cur, h1, h2, h3, h4⟩ => ⟨g, cap, cur, h1, h2, (hk g (by rw [h1]; rfl)).trans h3, h4⟩)⟩
/-- A slice of one's own cut to nothing. -/
theorem Ob.none {w : World} {base : Nat} {t : TypeId} {q n cap : Nat} {l : List UInt8} (h : Ob w base t (.slice (some ⟨q, 0, none⟩) n cap) l) : Ob w base t (.slice (some ⟨q, 0, none⟩) 0 cap) [] := by
  rcases h.2 with ⟨hv, _⟩ | ⟨g, c, cur, h1, h2, h3, h4, h5, h6, h7⟩
  · cases hv
  · injection h1 with e1 e2 e3
    injection e1 with e1
    injection e1 with e1
    subst e1 e3
    exact ⟨rfl, .inr ⟨q, cap, cur, rfl, h2, h3, Nat.zero_le _, h5, h6, by simp⟩⟩

/-! ### A digest on its way -/
/-- The blocks that a take does not touch. -/
def Fr (w : World) (g : Nat) (v0 : Value) (k : Nat) : Prop := k < w.heap.size ∧ k ≠ g ∧ v0.ownBlock ≠ some k

/-- A digest on its way: its state, what waits, Z told; w the world at the call's begin, v0 what waited there. -/
structure TkS (w wr : World) (g : Nat) (v0 v : Value) (S : St) (W : List UInt8) (Z : Nat) : Prop where
  dg : Dg wr g S v Z
  ob : Ob wr (g + 1) 5 v W
  bl : Below g w wr
  fr : ∀ k, Fr w g v0 k → wr.heap[k]? = w.heap[k]?
  ow : ∀ k, v.ownBlock = some k → v0.ownBlock = some k ∨ w.heap.size ≤ k
  sz : w.heap.size ≤ wr.heap.size
section
variable {w wr w2 w3 : World} {g : Nat} {v0 v v2 : Value} {S S' : St} {W W2 : List UInt8} {Z : Nat}
theorem TkS.own (h : TkS w wr g v0 v S W Z) : ∀ k, v.ownBlock = some k → g < k ∧ k < wr.heap.size := fun k hk => by
  have := World.ownsRow.lt h.ob k hk
  omega
/-- A store at a digest. -/
theorem TkS.set9 (h : TkS w wr g v0 v S W Z) (y : Nat) : TkS w (wr.setCell ⟨g, 9, none⟩ (.int .i64 (y : Int))) g v0 v S W y where
  dg := h.dg.setLen y
  ob := ownsRow_setCell_below h.ob (a := ⟨g, 9, none⟩) (Nat.lt_succ_self g) _
  bl := h.bl.setCell (p := ⟨g, 9, none⟩) (Nat.le_refl _) _
  fr := fun k hk => (heap_setCell_other wr ⟨g, 9, none⟩ k _ hk.2.1).trans (h.fr k hk)
  ow := h.ow
  sz := by rw [World.size_setCell]; exact h.sz
theorem TkS.app (h : TkS w wr g v0 v S W Z) (hg : wr.grownBy w2 v.ownBlock) (ho : Ob w2 (g + 1) 5 v2 W2) (hv : v2.ownBlock = v.ownBlock ∨ v2.ownBlock = some wr.heap.size) : TkS w (w2.setCell ⟨g, 8, none⟩ v2) g v0 v2 S W2 Z where
  dg := (h.dg.of_block (hg.block g h.dg.lt (fun e => by have := (h.own g e.symm).1; omega))).setWait v2
  ob := ownsRow_setCell_below ho (a := ⟨g, 8, none⟩) (Nat.lt_succ_self g) _
  bl := by
    have hb : Below g wr w2 := ⟨hg.os, hg.tape, hg.output, hg.size, fun k hk => hg.block k (by have := h.dg.lt; omega) (fun e => by have := (h.own k e.symm).1; omega)⟩
    exact (h.bl.trans hb).setCell (p := ⟨g, 8, none⟩) (Nat.le_refl _) _
  fr := fun k hk => by
    rw [heap_setCell_other w2 ⟨g, 8, none⟩ k _ hk.2.1, hg.block k (Nat.lt_of_lt_of_le hk.1 h.sz) (fun e => by
      rcases h.ow k e.symm with h1 | h1
      · exact hk.2.2 h1
      · have := hk.1; omega)]
    exact h.fr k hk
  ow := fun k hk => by
    rcases hv with e | e
    · exact h.ow k (by rw [← e]; exact hk)
    · rw [e] at hk
      injection hk with hk
      right
      rw [← hk]
      exact h.sz
  sz := by rw [World.size_setCell]; exact Nat.le_trans h.sz hg.size
theorem TkS.head (h : TkS w wr g v0 v S W Z) (hb : Below wr.heap.size wr w2) (hD : Dg w3 g S' v Z) (ho : ∀ k, k ≠ g → w3.heap[k]? = w2.heap[k]?) (hB : ∀ (B : Nat) (w0 : World), Below B w0 w2 → B ≤ g → Below B w0 w3) (hz : w3.heap.size = w2.heap.size) : TkS w w3 g v0 v S' W Z where
  dg := hD
  ob := h.ob.of_heap fun k hk => by
    have hk2 := h.own k hk
    rw [ho k (by omega), hb.block k hk2.2]
  bl := hB g w (h.bl.trans (hb.mono (Nat.le_of_lt h.dg.lt))) (Nat.le_refl _)
  fr := fun k hk => by
    rw [ho k hk.2.1, hb.block k (Nat.lt_of_lt_of_le hk.1 h.sz)]
    exact h.fr k hk
  ow := h.ow
  sz := by rw [hz]; exact Nat.le_trans h.sz hb.size
theorem TkS.empty {q n cap : Nat} (h : TkS w wr g v0 (.slice (some ⟨q, 0, none⟩) n cap) S W Z) : TkS w (wr.setCell ⟨g, 8, none⟩ (.slice (some ⟨q, 0, none⟩) 0 cap)) g v0 (.slice (some ⟨q, 0, none⟩) 0 cap) S [] Z where
  dg := h.dg.setWait _
  ob := ownsRow_setCell_below h.ob.none (a := ⟨g, 8, none⟩) (Nat.lt_succ_self g) _
  bl := h.bl.setCell (p := ⟨g, 8, none⟩) (Nat.le_refl _) _
  fr := fun k hk => (heap_setCell_other wr ⟨g, 8, none⟩ k _ hk.2.1).trans (h.fr k hk)
  ow := h.ow
  sz := by rw [World.size_setCell]; exact h.sz
end
end Go.Proofs.Ytllodapnbdbpeaa
