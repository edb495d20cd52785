/- Words of 32 bits in memory: a slice that reads as a list of words ('Rw'), a slice of the call's own ('Ow'), the built-in append onto it. No program's number stands here. (The second part is layer 1's text on bytes, turned.) -/
import Derived.Test.YtllodapnbdbpeaaOwn
import Derived.Test.YtllodapnbdbpeaaShaM
namespace Go.Proofs.Ytllodapnbdbpeaa
open Go.RowKit

/-- The value of a cell that holds a word. -/
def wv (x : BitVec 32) : Value := .int .u32 (x.toNat : Int)

/-- A slice with the address A and the length n reads as the words l; it lies below block B. -/
def Rw (w : World) (B : Nat) (A : Option Addr) (n : Nat) (l : List (BitVec 32)) : Prop :=
  l.length = n ∧ (0 < n → ∃ b o, A = some ⟨b, o, none⟩ ∧ b < B ∧ ∀ i, i < n → w.cell? ⟨b, o + i, none⟩ = some (.int .u32 ((l.getD i 0).toNat : Int)))

section
variable {w w' : World} {B B' n b : Nat} {A : Option Addr} {l : List (BitVec 32)} {t : TypeId}
theorem Rw.len (h : Rw w B A n l) : l.length = n := h.1
theorem Rw.keep (h : Rw w B A n l) (hk : ∀ p : Addr, p.block < B → w'.cell? p = w.cell? p) : Rw w' B A n l :=
  ⟨h.1, fun hn => by
    obtain ⟨b, o, e, hb, hc⟩ := h.2 hn
    exact ⟨b, o, e, hb, fun i hi => (hk ⟨b, o + i, none⟩ hb).trans (hc i hi)⟩⟩
theorem Rw.more (h : Rw w B A n l) (hB : B ≤ B') : Rw w B' A n l :=
  ⟨h.1, fun hn => by
    obtain ⟨b, o, e, hb, hc⟩ := h.2 hn
    exact ⟨b, o, e, by omega, hc⟩⟩
theorem Rw.below (h : Rw w B A n l) (hb : Below B w w') : Rw w' B A n l := h.keep fun _ hp => hb.cell hp
theorem Rw.drew (h : Rw w B A n l) : Rw w.drew B A n l := h
theorem Rw.alloc (h : Rw w B A n l) (hB : B ≤ w.heap.size) (o : Obj) : Rw (w.alloc o) B A n l := h.keep fun p hp => World.cell?_alloc_lt w o p (by omega)
theorem Rw.nil_ : Rw w B A 0 [] := ⟨rfl, fun h => absurd h (by omega)⟩
end

/-- A literal slice of words, new, in block g. -/
theorem Rw.litm (w : World) (g : Nat) (hg : w.heap.size = g) (l : List (BitVec 32)) (t : TypeId) (cs : Array Value) (fr : Nat × Nat) (hcs : cs = (l.map fun x => Value.int .u32 (x.toNat : Int)).toArray) (n : Nat) (hn : l.length = n) : Rw (w.alloc (.cells cs t fr)) (g + 1) (some ⟨g, 0, none⟩) n l := by
  subst hcs hg
  refine ⟨hn, fun _ => ⟨_, 0, rfl, by omega, fun i hi => ?_⟩⟩
  have hi' : i < l.length := by omega
  rw [Nat.zero_add, World.cell?_alloc_mark]
  simp [List.getD, hi']
theorem Rw.lit (w : World) (g : Nat) (hg : w.heap.size = g) (l : List (BitVec 32)) (t : TypeId) (cs : Array Value) (hcs : cs = (l.map fun x => Value.int .u32 (x.toNat : Int)).toArray) (n : Nat) (hn : l.length = n) : Rw (w.alloc (.cells cs t)) (g + 1) (some ⟨g, 0, none⟩) n l :=
  Rw.litm w g hg l t cs _ hcs n hn

theorem wf_u32 {n : Int} (h : (Lit.int .u32 n).wf = true) : 0 ≤ n ∧ n < 4294967296 := by
  simp [Lit.wf, IntKind.min, IntKind.max, IntKind.signed, IntKind.bits] at h
  omega

/-- A slice of words that came in. -/
theorem Rw.of_ints {w : World} {x : Addr} {n c : Nat} {zs : List Int} (hn : n ≤ c) (hz : zs.length = c) (hcell : ∀ i, i < zs.length → w.cell? (x.add i) = some (.int .u32 (zs.getD i 0))) (hw : ∀ z ∈ zs, (Lit.int .u32 z).wf = true) :
    Rw w w.heap.size (some x) n ((zs.take n).map fun z => BitVec.ofNat 32 z.toNat) := by
  refine ⟨by simp; omega, fun h0 => ?_⟩
  obtain ⟨b, off, spot⟩ := x
  have hc := hcell 0 (by omega)
  have hspot : spot = none := by simpa [Addr.add] using World.cell?_spot hc
  subst hspot
  refine ⟨b, off, rfl, ?_, fun i hi => ?_⟩
  · have h := World.block_lt_of_cell? w _ hc
    simpa [Addr.add] using h
  · have hi' : i < zs.length := by omega
    have h := hcell i hi'
    have e : (⟨b, off, none⟩ : Addr).add i = ⟨b, off + i, none⟩ := by unfold Addr.add; split <;> simp_all
    rw [e] at h
    rw [h]
    have hb := wf_u32 (hw _ (List.getElem_mem hi'))
    have e2 : ((BitVec.ofNat 32 (zs[i]).toNat).toNat : Int) = zs[i] := by
      rw [BitVec.toNat_ofNat]; omega
    simp [List.getD, hi, hi'] at e2 ⊢
    omega

/-- A call gives back a slice that reads as the words l, and leaves what was there. -/
def GivesW (l : List (BitVec 32)) (w : World) (e : Ending) (w' : World) : Prop :=
  ∃ (A : Option Addr) (n c : Nat), e = .returned (.slice A n c) ∧ Rw w' w'.heap.size A n l ∧ n ≤ c ∧ Below w.heap.size w w'
theorem givesw_nil (w : World) : GivesW [] w (.returned (.slice none 0 0)) w := ⟨none, 0, 0, rfl, Rw.nil_, Nat.le_refl _, Below.refl _ _⟩
theorem givesw_lit (w : World) (t : TypeId) (l : List (BitVec 32)) (cs : Array Value) (n : Nat) (hn : l.length = n) (hcs : cs = (l.map fun x => Value.int .u32 (x.toNat : Int)).toArray) :
    GivesW l w (.returned (.slice (some ⟨w.heap.size, 0, none⟩) n n)) (w.alloc (.cells cs t)) :=
  ⟨_, n, n, rfl, (Rw.lit w _ rfl l t cs hcs n hn).more (by simp), Nat.le_refl _, (Below.refl _ _).alloc (Nat.le_refl _) _⟩

/-! ### Words of a call's own -/

theorem wv_one (l : List (BitVec 32)) : ∀ u ∈ l.map wv, u.oneCell' = true := by
  intro u hu
  obtain ⟨x, _, rfl⟩ := List.mem_map.1 hu
  rfl

/-- A slice value of the call's own that holds l: nil and l empty, or at the head of a row of its own in a block from base on. -/
def Ow (w : World) (base : Nat) (t : TypeId) (v : Value) (l : List (BitVec 32)) : Prop := w.ownsRow base t 1 v l.length (l.map wv)

section
variable {w w' : World} {base : Nat} {t : TypeId} {v : Value} {l : List (BitVec 32)}
theorem Ow.nil_ (w : World) (base : Nat) (t : TypeId) : Ow w base t (.slice none 0 0) [] := World.ownsRow_nil w base t 1
theorem Ow.lit (w : World) (l : List (BitVec 32)) (cs : Array Value) (hcs : cs = (l.map wv).toArray) (hb : base ≤ w.heap.size) (n : Nat) (hn : l.length = n) (hm : n ≤ maxLen) : Ow (w.alloc (.cells cs t)) base t (.slice (some ⟨w.heap.size, 0, none⟩) n n) l := by
  subst hcs hn
  have h := World.ownsRow_lit (e := t) (size := 1) w (l.map wv).toArray l.length hb hm (by simp)
  exact h
theorem Ow.alloc (h : Ow w base t v l) (o : Obj) : Ow (w.alloc o) base t v l := World.ownsRow.alloc h o
theorem Ow.drew (h : Ow w base t v l) : Ow w.drew base t v l := h
theorem Ow.kept {row : Option Nat} (h : Ow w base t v l) (hg : w.grownBy w' row) (hne : v.ownBlock = none ∨ v.ownBlock ≠ row) : Ow w' base t v l := World.ownsRow.kept h hg hne
theorem Ow.below (h : Ow w base t v l) (hb : Below w.heap.size w w') : Ow w' base t v l :=
  World.ownsRow.kept h (row := none) ⟨hb.os, hb.tape, hb.output, hb.size, fun k hk _ => hb.block k hk⟩ (by cases v.ownBlock <;> simp)
/-- What it reads as. -/
theorem Ow.rd (h : Ow w base t v l) : ∃ (A : Option Addr) (c : Nat), v = .slice A l.length c ∧ l.length ≤ c ∧ c ≤ maxLen ∧ Rw w w.heap.size A l.length l := by
  rcases h.2 with ⟨hv, h0⟩ | ⟨g, cap, cur, hv, _, hg, hn, hm, _⟩
  · have e : l = [] := List.eq_nil_of_length_eq_zero h0
    subst e
    exact ⟨none, 0, hv, Nat.le_refl _, by decide, Rw.nil_⟩
  · refine ⟨some ⟨g, 0, none⟩, cap, hv, hn, hm, rfl, fun h0 => ⟨g, 0, rfl, ?_, fun i hi => ?_⟩⟩
    · have hb : v.ownBlock = some g := by rw [hv]; rfl
      exact (World.ownsRow.lt h g hb).2
    · have hc := World.ownsRow.cells h (g := g) (by rw [hv]; rfl) i (wv l[i]) (by simp [hi])
      simp only [List.getD, List.getElem?_eq_getElem hi]
      unfold Addr.add at hc
      by_cases h0 : i = 0
      · subst h0; simpa [wv] using hc
      · rw [if_neg h0] at hc; simpa [wv] using hc
end

section
variable {w w' : World} {base : Nat} {t : TypeId} {v : Value} {l : List (BitVec 32)}
/-- Where it is not empty. -/
theorem Ow.form (h : Ow w base t v l) (h0 : 0 < l.length) : ∃ g cap, v = .slice (some ⟨g, 0, none⟩) l.length cap ∧ base ≤ g ∧ g < w.heap.size ∧ l.length ≤ cap := by
  rcases h.2 with ⟨_, hn⟩ | ⟨g, cap, cur, hv, hbg, _, hn, _⟩
  · omega
  · exact ⟨g, cap, hv, hbg, (World.ownsRow.lt h g (by rw [hv]; rfl)).2, hn⟩
theorem Ow.rd_ {A : Option Addr} {n cap : Nat} (h : Ow w base t (.slice A n cap) l) : l.length = n ∧ Rw w w.heap.size A n l ∧ n ≤ cap ∧ cap ≤ maxLen := by
  obtain ⟨A2, c2, hv, hc, hm, hr⟩ := h.rd
  injection hv with h1 h2 h3
  subst h1 h2 h3
  exact ⟨rfl, hr, hc, hm⟩
variable {g cap n : Nat}
theorem Ow.cell (h : Ow w base t (.slice (some ⟨g, 0, none⟩) n cap) l) (hn : l.length = n) {j : Nat} (hj : j < n) : w.cell? ⟨g, j, none⟩ = some (.int .u32 ((l.getD j 0).toNat : Int)) := by
  subst hn
  have := World.ownsRow.cellAt h j (by omega)
  rw [this]
  simp [List.getD, hj, wv]
theorem Ow.frozen (h : Ow w base t (.slice (some ⟨g, 0, none⟩) n cap) l) (hn : l.length = n) (j : Nat) : w.frozen? ⟨g, j, none⟩ = false := by
  subst hn
  exact World.ownsRow.frozenAt h j
theorem Ow.stored (h : Ow w base t (.slice (some ⟨g, 0, none⟩) n cap) l) (hn : l.length = n) (j : Nat) (x : BitVec 32) {u : Value} (hu : u = .int .u32 (x.toNat : Int)) : Ow (w.setCell ⟨g, j, none⟩ u) base t (.slice (some ⟨g, 0, none⟩) n cap) (l.set j x) := by
  subst hn hu
  have := World.ownsRow.stored h j (wv x)
  unfold Ow
  rw [List.length_set, List.map_set]
  exact this.1
end

section
variable {P : Program} (w : World)

theorem run_appw_none (base : Nat) (t ty e : TypeId) (i : TypeInfo) (ht : P.underlying t = some (.slice e)) (hi : P.info? e = some i) (v : Value) (l : List (BitVec 32)) (hown : Ow w base e v l) (c : Nat) :
    (Builtin.append_ #[t, t] ty #[v, .slice none 0 c]).run P w = .ok v w := by
  rcases hown.2 with ⟨rfl, hn⟩ | ⟨g, cap, cur, rfl, _, _, hnc, _⟩
  · simp [Builtin.append_, run_underlying ht, sizeOf, typeInfo, hi, Builtin.lenOf, Builtin.firstCells]
  · simp [Builtin.append_, run_underlying ht, sizeOf, typeInfo, hi, Builtin.lenOf, Builtin.firstCells, hnc, storeCells]

/-- append onto an own slice: some value, some world, in which it holds both. -/
theorem run_appw (base : Nat) (t ty e : TypeId) (ht : P.underlying t = some (.slice e)) (hinfo : (P.info? e).map (fun i => (i.zero, i.size, i.bytes)) = some (some (.int .u32 0), 1, 4))
    (v : Value) (l : List (BitVec 32)) (hown : Ow w base e v l) (B : Nat) (A : Option Addr) (m c : Nat) (news : List (BitVec 32)) (hr : Rw w B A m news) (hbound : l.length + m ≤ 35184372088832) (hbase : base ≤ w.heap.size) :
    ∃ v' w', (Builtin.append_ #[t, t] ty #[v, .slice A m c]).run P w = .ok v' w' ∧ Ow w' base e v' (l ++ news) ∧ w.grownBy w' v.ownBlock ∧ (v'.ownBlock = v.ownBlock ∨ v'.ownBlock = some w.heap.size) := by
  obtain ⟨i, hi, hzz⟩ := Option.map_eq_some_iff.1 hinfo
  simp only [Prod.mk.injEq] at hzz
  obtain ⟨hz, hs, hb⟩ := hzz
  have hlen := hr.1
  rcases A with _ | ad
  · have h0 : m = 0 := by
      rcases Nat.eq_zero_or_pos m with h | h
      · exact h
      · obtain ⟨_, _, h', _⟩ := hr.2 h
        cases h'
    subst h0
    have hn : news = [] := List.eq_nil_of_length_eq_zero hlen
    subst hn
    exact ⟨v, w, run_appw_none w base t ty e i ht hi v l hown c, by simpa using hown, World.grownBy.refl w _, .inl rfl⟩
  · have hcells : ∀ j u, (news.map wv)[j]? = some u → w.cell? (ad.add j) = some u := by
      intro j u hu
      rcases Nat.eq_zero_or_pos m with h0 | h0
      · have hn : news = [] := List.eq_nil_of_length_eq_zero (by omega)
        subst hn
        simp at hu
      · obtain ⟨b, o, e1, _, hc⟩ := hr.2 h0
        injection e1 with e1
        subst e1
        have hj : j < news.length := by
          rcases Nat.lt_or_ge j news.length with h | h
          · exact h
          · rw [List.getElem?_eq_none (by simpa using h)] at hu; cases hu
        have h := hc j (by omega)
        have ea : (⟨b, o, none⟩ : Addr).add j = ⟨b, o + j, none⟩ := by unfold Addr.add; split <;> simp_all
        rw [ea, h, ← hu]
        simp [List.getD, hj, wv]
    obtain ⟨v', w', hrun, h2, h3, _, h5⟩ := run_append_own_at (P := P) w base t ty e i (.int .u32 0) 1 4 ht hi hz hs hb rfl (by decide) v l.length (l.map wv) hown ad m c (news.map wv) (by simp [hlen]) hcells (wv_one news)
      (by unfold maxLen; omega) (by omega) hbase
    refine ⟨v', w', hrun, ?_, h3, h5⟩
    unfold Ow
    rw [List.length_append, hlen, List.map_append]
    exact h2

/-- As a law for 'go_wp2_with (at_builtin; refine wpList_appw ..)'. -/
theorem wpList_appw {w : World} {ops : Array Oper} {rest : List Oper} {o : Oper} {a : Act} {Q : Exit → Act → World → Prop} (hgd : o.guard = none) (s x : Operand) (t : TypeId)
    (ho : o.op = .call { callee := .builtin .append, args := #[s, x], argTypes := #[t, t] })
    (base : Nat) (e : TypeId) (ht : P.underlying t = some (.slice e)) (hinfo : (P.info? e).map (fun i => (i.zero, i.size, i.bytes)) = some (some (.int .u32 0), 1, 4))
    (v : Value) (l : List (BitVec 32)) (hs : a.eval s = v) (hown : Ow w base e v l) (B : Nat) (A : Option Addr) (m c : Nat) (news : List (BitVec 32)) (hx : a.eval x = .slice A m c) (hr : Rw w B A m news)
    (hbound : l.length + m ≤ 35184372088832) (hbase : base ≤ w.heap.size)
    (h : ∀ v' w', Ow w' base e v' (l ++ news) → w.grownBy w' v.ownBlock → (v'.ownBlock = v.ownBlock ∨ v'.ownBlock = some w.heap.size) → wpList P ops Q rest (a.put o.dst v') w') : wpList P ops Q (o :: rest) a w := by
  refine wpList_plain hgd fun K hK => ?_
  obtain ⟨v', w', hrun, h2, h3, h4⟩ := run_appw (P := P) w base t o.type e ht hinfo v l hown B A m c news hr hbound hbase
  unfold Oper.wp execOp
  simp only [ho, resolve, invoke, builtin, Sem.run_bind, Sem.run_pure, Result.andThen_ok, List.map_toArray, List.map_cons, List.map_nil, hs, hx, hrun]
  exact hK _ _ (h v' w' h2 h3 h4)


/-- The same, with what is left as it was told by 'Below': nothing ahead of block base has changed. -/
theorem wpList_appwB {w : World} {ops : Array Oper} {rest : List Oper} {o : Oper} {a : Act} {Q : Exit → Act → World → Prop} (hgd : o.guard = none) (s x : Operand) (t : TypeId)
    (ho : o.op = .call { callee := .builtin .append, args := #[s, x], argTypes := #[t, t] })
    (base : Nat) (e : TypeId) (ht : P.underlying t = some (.slice e)) (hinfo : (P.info? e).map (fun i => (i.zero, i.size, i.bytes)) = some (some (.int .u32 0), 1, 4))
    (v : Value) (l : List (BitVec 32)) (hs : a.eval s = v) (hown : Ow w base e v l) (B : Nat) (A : Option Addr) (m c : Nat) (news : List (BitVec 32)) (hx : a.eval x = .slice A m c) (hr : Rw w B A m news)
    (hbound : l.length + m ≤ 35184372088832) (hbase : base ≤ w.heap.size)
    (h : ∀ v' w', Ow w' base e v' (l ++ news) → Below base w w' → wpList P ops Q rest (a.put o.dst v') w') : wpList P ops Q (o :: rest) a w :=
  wpList_appw hgd s x t ho base e ht hinfo v l hs hown B A m c news hx hr hbound hbase fun v' w' h1 h2 _ =>
    h v' w' h1 ⟨h2.os, h2.tape, h2.output, h2.size, fun k hk => h2.block k (by omega) (fun e => by have := (World.ownsRow.lt hown k e.symm).1; omega)⟩
end

/-! ### The operations on words, as numbers -/
theorem xor32 (a b : BitVec 32) : bits BinOp.xor .u32 (a.toNat : Int) (b.toNat : Int) = ((a ^^^ b).toNat : Int) := by
  rw [u32_xor_nat _ _ a.isLt b.isLt, BitVec.toNat_xor]
theorem andw (a b : BitVec 32) : bits BinOp.and .u32 (a.toNat : Int) (b.toNat : Int) = ((a &&& b).toNat : Int) := by
  rw [u32_and_nat _ _ a.isLt b.isLt, BitVec.toNat_and]
theorem orw (a b : BitVec 32) : bits BinOp.or .u32 (a.toNat : Int) (b.toNat : Int) = ((a ||| b).toNat : Int) := by
  rw [u32_or_nat _ _ a.isLt b.isLt, BitVec.toNat_or]
theorem addw (a b : BitVec 32) : ((a.toNat : Int) + (b.toNat : Int)) % 4294967296 = ((a + b).toNat : Int) := by
  rw [BitVec.toNat_add]; omega
theorem notw (a : BitVec 32) : 4294967295 - (a.toNat : Int) = ((~~~ a).toNat : Int) := by
  have h := a.isLt
  rw [BitVec.toNat_not]; omega
end Go.Proofs.Ytllodapnbdbpeaa
