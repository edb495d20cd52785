/- Slices of bytes that a call made and may append to ('Ob'), and the built-in append onto them, whatever the source: nil, empty or not. No program's number stands here. -/
import Derived.Test.YtahgaogmcffglaaDoorJNumW
import Derived.Maps.AppendAt
import Derived.Laws.OwnMore
import Derived.OwnWalk
import Derived.RegionTactic
namespace Go.Proofs.YtahgaogmcffglaaDoor
open Go.RowKit

theorem bv_one (l : List UInt8) : ∀ u ∈ l.map bv, u.oneCell' = true := by
  intro u hu
  obtain ⟨x, _, rfl⟩ := List.mem_map.1 hu
  rfl

/-- A slice value of the call's own that holds l: nil and l empty, or at the head of a row of its own in a block from base on. -/
def Ob (w : World) (base : Nat) (t : TypeId) (v : Value) (l : List UInt8) : Prop := w.ownsRow base t 1 v l.length (l.map bv)

section
variable {w w' : World} {base : Nat} {t : TypeId} {v : Value} {l : List UInt8}
theorem Ob.nil_ (w : World) (base : Nat) (t : TypeId) : Ob w base t (.slice none 0 0) [] := World.ownsRow_nil w base t 1
theorem Ob.lit (w : World) (l : List UInt8) (cs : Array Value) (hcs : cs = (l.map bv).toArray) (hb : base ≤ w.heap.size) (n : Nat) (hn : l.length = n) (hm : n ≤ maxLen) : Ob (w.alloc (.cells cs t)) base t (.slice (some ⟨w.heap.size, 0, none⟩) n n) l := by
  subst hcs hn
  have h := World.ownsRow_lit (e := t) (size := 1) w (l.map bv).toArray l.length hb hm (by simp)
  exact h
theorem Ob.alloc (h : Ob w base t v l) (o : Obj) : Ob (w.alloc o) base t v l := World.ownsRow.alloc h o
theorem Ob.drew (h : Ob w base t v l) : Ob w.drew base t v l := h
theorem Ob.kept {row : Option Nat} (h : Ob w base t v l) (hg : w.grownBy w' row) (hne : v.ownBlock = none ∨ v.ownBlock ≠ row) : Ob w' base t v l := World.ownsRow.kept h hg hne
theorem Ob.below (h : Ob w base t v l) (hb : Below w.heap.size w w') : Ob w' base t v l :=
  World.ownsRow.kept h (row := none) ⟨hb.os, hb.tape, hb.output, hb.size, fun k hk _ => hb.block k hk⟩ (by cases v.ownBlock <;> simp)
/-- What it reads as. -/
theorem Ob.rd (h : Ob w base t v l) : ∃ (A : Option Addr) (c : Nat), v = .slice A l.length c ∧ l.length ≤ c ∧ c ≤ maxLen ∧ Rd w w.heap.size A l.length l := by
  rcases h.2 with ⟨hv, h0⟩ | ⟨g, cap, cur, hv, _, hg, hn, hm, _⟩
  · have e : l = [] := List.eq_nil_of_length_eq_zero h0
    subst e
    exact ⟨none, 0, hv, Nat.le_refl _, by decide, Rd.nil_⟩
  · refine ⟨some ⟨g, 0, none⟩, cap, hv, hn, hm, rfl, fun h0 => ⟨g, 0, rfl, ?_, fun i hi => ?_⟩⟩
    · have hb : v.ownBlock = some g := by rw [hv]; rfl
      exact (World.ownsRow.lt h g hb).2
    · have hc := World.ownsRow.cells h (g := g) (by rw [hv]; rfl) i (bv l[i]) (by simp [hi])
      simp only [List.getD, List.getElem?_eq_getElem hi]
      unfold Addr.add at hc
      by_cases h0 : i = 0
      · subst h0; simpa [bv] using hc
      · rw [if_neg h0] at hc; simpa [bv] using hc
end

section
variable {w w' : World} {base : Nat} {t : TypeId} {v : Value} {l : List UInt8}
/-- Where it is not empty. -/
theorem Ob.form (h : Ob w base t v l) (h0 : 0 < l.length) : ∃ g cap, v = .slice (some ⟨g, 0, none⟩) l.length cap ∧ base ≤ g ∧ g < w.heap.size ∧ l.length ≤ cap := by
  rcases h.2 with ⟨_, hn⟩ | ⟨g, cap, cur, hv, hbg, _, hn, _⟩
  · omega
  · exact ⟨g, cap, hv, hbg, (World.ownsRow.lt h g (by rw [hv]; rfl)).2, hn⟩
theorem Ob.rd_ {A : Option Addr} {n cap : Nat} (h : Ob w base t (.slice A n cap) l) : l.length = n ∧ Rd w w.heap.size A n l ∧ n ≤ cap ∧ cap ≤ maxLen := by
  obtain ⟨A2, c2, hv, hc, hm, hr⟩ := h.rd
  injection hv with h1 h2 h3
  subst h1 h2 h3
  exact ⟨rfl, hr, hc, hm⟩
variable {g cap n : Nat}
theorem Ob.cell (h : Ob w base t (.slice (some ⟨g, 0, none⟩) n cap) l) (hn : l.length = n) {j : Nat} (hj : j < n) : w.cell? ⟨g, j, none⟩ = some (.int .u8 ((l.getD j 0).toNat : Int)) := by
  subst hn
  have := World.ownsRow.cellAt h j (by omega)
  rw [this]
  simp [List.getD, hj, bv]
theorem Ob.frozen (h : Ob w base t (.slice (some ⟨g, 0, none⟩) n cap) l) (hn : l.length = n) (j : Nat) : w.frozen? ⟨g, j, none⟩ = false := by
  subst hn
  exact World.ownsRow.frozenAt h j
theorem Ob.stored (h : Ob w base t (.slice (some ⟨g, 0, none⟩) n cap) l) (hn : l.length = n) (j : Nat) (x : UInt8) {u : Value} (hu : u = .int .u8 (x.toNat : Int)) : Ob (w.setCell ⟨g, j, none⟩ u) base t (.slice (some ⟨g, 0, none⟩) n cap) (l.set j x) := by
  subst hn hu
  have := World.ownsRow.stored h j (bv x)
  unfold Ob
  rw [List.length_set, List.map_set]
  exact this.1
end

section
variable {P : Program} (w : World)

theorem run_app_none (base : Nat) (t ty e : TypeId) (i : TypeInfo) (ht : P.underlying t = some (.slice e)) (hi : P.info? e = some i) (v : Value) (l : List UInt8) (hown : Ob w base e v l) (c : Nat) :
    (Builtin.append_ #[t, t] ty #[v, .slice none 0 c]).run P w = .ok v w := by
  rcases hown.2 with ⟨rfl, hn⟩ | ⟨g, cap, cur, rfl, _, _, hnc, _⟩
  · simp [Builtin.append_, run_underlying ht, sizeOf, typeInfo, hi, Builtin.lenOf, Builtin.firstCells]
  · simp [Builtin.append_, run_underlying ht, sizeOf, typeInfo, hi, Builtin.lenOf, Builtin.firstCells, hnc, storeCells]

/-- append onto an own slice: some value, some world, in which it holds both. -/
theorem run_app (base : Nat) (t ty e : TypeId) (ht : P.underlying t = some (.slice e)) (hinfo : (P.info? e).map (fun i => (i.zero, i.size, i.bytes)) = some (some (.int .u8 0), 1, 1))
    (v : Value) (l : List UInt8) (hown : Ob w base e v l) (B : Nat) (A : Option Addr) (m c : Nat) (news : List UInt8) (hr : Rd w B A m news) (hbound : l.length + m ≤ 140737488355328) (hbase : base ≤ w.heap.size) :
    ∃ v' w', (Builtin.append_ #[t, t] ty #[v, .slice A m c]).run P w = .ok v' w' ∧ Ob w' base e v' (l ++ news) ∧ w.grownBy w' v.ownBlock ∧ (v'.ownBlock = v.ownBlock ∨ v'.ownBlock = some w.heap.size) := by
  obtain ⟨i, hi, hzz⟩ := Option.map_eq_some_iff.1 hinfo
  simp only [Prod.mk.injEq] at hzz
  obtain ⟨hz, hs, hb⟩ := hzz
  have hlen := hr.1
  rcases A with _ | ad
  · have h0 : m = 0 := by
      rcases Nat.eq_zero_or_pos m with h | h
      · exact h
      · obtain ⟨_, _, h', _⟩ := hr.2 h
        cases h'
    subst h0
    have hn : news = [] := List.eq_nil_of_length_eq_zero hlen
    subst hn
    exact ⟨v, w, run_app_none w base t ty e i ht hi v l hown c, by simpa using hown, World.grownBy.refl w _, .inl rfl⟩
  · have hcells : ∀ j u, (news.map bv)[j]? = some u → w.cell? (ad.add j) = some u := by
      intro j u hu
      rcases Nat.eq_zero_or_pos m with h0 | h0
      · have hn : news = [] := List.eq_nil_of_length_eq_zero (by omega)
        subst hn
        simp at hu
      · obtain ⟨b, o, e1, _, hc⟩ := hr.2 h0
        injection e1 with e1
        subst e1
        have hj : j < news.length := by
          rcases Nat.lt_or_ge j news.length with h | h
          · exact h
          · rw [List.getElem?_eq_none (by simpa using h)] at hu; cases hu
        have h := hc j (by omega)
        have ea : (⟨b, o, none⟩ : Addr).add j = ⟨b, o + j, none⟩ := by unfold Addr.add; split <;> simp_all
        rw [ea, h, ← hu]
        simp [List.getD, hj, bv]
    obtain ⟨v', w', hrun, h2, h3, _, h5⟩ := run_append_own_at (P := P) w base t ty e i (.int .u8 0) 1 1 ht hi hz hs hb rfl (by decide) v l.length (l.map bv) hown ad m c (news.map bv) (by simp [hlen]) hcells (bv_one news)
      (by unfold maxLen; omega) (by omega) hbase
    refine ⟨v', w', hrun, ?_, h3, h5⟩
    unfold Ob
    rw [List.length_append, hlen, List.map_append]
    exact h2

/-- As a law for 'go_wp2_with (at_builtin; refine wpList_app ..)'. -/
theorem wpList_app {w : World} {ops : Array Oper} {rest : List Oper} {o : Oper} {a : Act} {Q : Exit → Act → World → Prop} (hgd : o.guard = none) (s x : Operand) (t : TypeId)
    (ho : o.op = .call { callee := .builtin .append, args := #[s, x], argTypes := #[t, t] })
    (base : Nat) (e : TypeId) (ht : P.underlying t = some (.slice e)) (hinfo : (P.info? e).map (fun i => (i.zero, i.size, i.bytes)) = some (some (.int .u8 0), 1, 1))
    (v : Value) (l : List UInt8) (hs : a.eval s = v) (hown : Ob w base e v l) (B : Nat) (A : Option Addr) (m c : Nat) (news : List UInt8) (hx : a.eval x = .slice A m c) (hr : Rd w B A m news)
    (hbound : l.length + m ≤ 140737488355328) (hbase : base ≤ w.heap.size)
    (h : ∀ v' w', Ob w' base e v' (l ++ news) → w.grownBy w' v.ownBlock → (v'.ownBlock = v.ownBlock ∨ v'.ownBlock = some w.heap.size) → wpList P ops Q rest (a.put o.dst v') w') : wpList P ops Q (o :: rest) a w := by
  refine wpList_plain hgd fun K hK => ?_
  obtain ⟨v', w', hrun, h2, h3, h4⟩ := run_app (P := P) w base t o.type e ht hinfo v l hown B A m c news hr hbound hbase
  unfold Oper.wp execOp
  simp only [ho, resolve, invoke, builtin, Sem.run_bind, Sem.run_pure, Result.andThen_ok, List.map_toArray, List.map_cons, List.map_nil, hs, hx, hrun]
  exact hK _ _ (h v' w' h2 h3 h4)

theorem le_alloc (w : World) (o : Obj) : w.heap.size ≤ (w.alloc o).heap.size := by simp

/-- The same, with what is left as it was told by 'Below': nothing ahead of block base has changed. -/
theorem wpList_appB {w : World} {ops : Array Oper} {rest : List Oper} {o : Oper} {a : Act} {Q : Exit → Act → World → Prop} (hgd : o.guard = none) (s x : Operand) (t : TypeId)
    (ho : o.op = .call { callee := .builtin .append, args := #[s, x], argTypes := #[t, t] })
    (base : Nat) (e : TypeId) (ht : P.underlying t = some (.slice e)) (hinfo : (P.info? e).map (fun i => (i.zero, i.size, i.bytes)) = some (some (.int .u8 0), 1, 1))
    (v : Value) (l : List UInt8) (hs : a.eval s = v) (hown : Ob w base e v l) (B : Nat) (A : Option Addr) (m c : Nat) (news : List UInt8) (hx : a.eval x = .slice A m c) (hr : Rd w B A m news)
    (hbound : l.length + m ≤ 140737488355328) (hbase : base ≤ w.heap.size)
    (h : ∀ v' w', Ob w' base e v' (l ++ news) → Below base w w' → wpList P ops Q rest (a.put o.dst v') w') : wpList P ops Q (o :: rest) a w :=
  wpList_app hgd s x t ho base e ht hinfo v l hs hown B A m c news hx hr hbound hbase fun v' w' h1 h2 _ =>
    h v' w' h1 ⟨h2.os, h2.tape, h2.output, h2.size, fun k hk => h2.block k (by omega) (fun e => by have := (World.ownsRow.lt hown k e.symm).1; omega)⟩
end
end Go.Proofs.YtahgaogmcffglaaDoor
