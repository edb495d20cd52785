/- Items in memory: a value that reads as an item ('RdI'), the elements of a list that do ('RdIs'). -/
import Derived.Test.YtlecbblmaadpiaaGreatDoorMCborM
import Derived.Test.YtlecbblmaadpiaaGreatDoorMCborN
import Derived.BigCall
import Derived.Maps.AppendAt
import Derived.Laws.OwnMore
import Derived.OwnWalk
import Derived.RegionTactic
import Derived.Deep.RegionHeld3
namespace Go.Proofs.YtlecbblmaadpiaaGreatDoor
open Go.RowKit
mutual
def RdI (w : World) (B : Nat) (v : Value) : Itm → Prop
  | .mk k n d l => ∃ (A : Option Addr) (nd cd : Nat) (AL : Option Addr) (nl cl : Nat), v = .agg #[.int .i64 k, .int .u64 (n : Int), .slice A nd cd, .slice AL nl cl] ∧
      (Lit.int .i64 k).wf = true ∧ n < 18446744073709551616 ∧ (nd ≤ cd ∧ nd ≤ 140737488355328) ∧ Rd w B A nd d ∧ (nl ≤ cl ∧ nl ≤ 140737488355328) ∧ l.length = nl ∧ (0 < nl → ∃ b o, AL = some ⟨b, o, none⟩ ∧ b < B ∧ RdIs w B b o l)
def RdIs (w : World) (B b o : Nat) : List Itm → Prop
  | [] => True
  | x :: r => (∃ c0 c1 c2 c3 : Value, w.cell? ⟨b, o, none⟩ = some c0 ∧ w.cell? ⟨b, o + 1, none⟩ = some c1 ∧ w.cell? ⟨b, o + 2, none⟩ = some c2 ∧ w.cell? ⟨b, o + 3, none⟩ = some c3 ∧ RdI w B (.agg #[c0, c1, c2, c3]) x) ∧ RdIs w B b (o + 4) r
end
mutual
theorem RdI.keep {w w' : World} {B : Nat} (hk : ∀ p : Addr, p.block < B → w'.cell? p = w.cell? p) : ∀ {x : Itm} {v : Value}, RdI w B v x → RdI w' B v x
  | .mk k n d l, v, h => by
    rw [RdI] at h ⊢
    obtain ⟨A, nd, cd, AL, nl, cl, e, h1, h2, h3, h4, h5, h6, h7⟩ := h
    refine ⟨A, nd, cd, AL, nl, cl, e, h1, h2, h3, h4.keep hk, h5, h6, fun h0 => ?_⟩
    obtain ⟨b, o, ea, hb, hs⟩ := h7 h0
    exact ⟨b, o, ea, hb, RdIs.keep hk hb hs⟩
theorem RdIs.keep {w w' : World} {B : Nat} (hk : ∀ p : Addr, p.block < B → w'.cell? p = w.cell? p) {b : Nat} (hb : b < B) : ∀ {l : List Itm} {o : Nat}, RdIs w B b o l → RdIs w' B b o l
  | [], o, _ => by rw [RdIs]; trivial
  | x :: r, o, h => by
    rw [RdIs] at h ⊢
    obtain ⟨⟨c0, c1, c2, c3, g0, g1, g2, g3, gx⟩, hr⟩ := h
    exact ⟨⟨c0, c1, c2, c3, (hk ⟨b, o, none⟩ hb).trans g0, (hk ⟨b, o + 1, none⟩ hb).trans g1, (hk ⟨b, o + 2, none⟩ hb).trans g2, (hk ⟨b, o + 3, none⟩ hb).trans g3, RdI.keep hk gx⟩, RdIs.keep hk hb hr⟩
end
mutual
theorem RdI.more {w : World} {B B' : Nat} (hB : B ≤ B') : ∀ {x : Itm} {v : Value}, RdI w B v x → RdI w B' v x
  | .mk k n d l, v, h => by
    rw [RdI] at h ⊢
    obtain ⟨A, nd, cd, AL, nl, cl, e, h1, h2, h3, h4, h5, h6, h7⟩ := h
    refine ⟨A, nd, cd, AL, nl, cl, e, h1, h2, h3, h4.more hB, h5, h6, fun h0 => ?_⟩
    obtain ⟨b, o, ea, hb, hs⟩ := h7 h0
    exact ⟨b, o, ea, by omega, RdIs.more hB hs⟩
theorem RdIs.more {w : World} {B B' : Nat} (hB : B ≤ B') {b : Nat} : ∀ {l : List Itm} {o : Nat}, RdIs w B b o l → RdIs w B' b o l
  | [], o, _ => by rw [RdIs]; trivial
  | x :: r, o, h => by
    rw [RdIs] at h ⊢
    obtain ⟨⟨c0, c1, c2, c3, g0, g1, g2, g3, gx⟩, hr⟩ := h
    exact ⟨⟨c0, c1, c2, c3, g0, g1, g2, g3, RdI.more hB gx⟩, RdIs.more hB hr⟩
end
section
variable {w w' : World} {B B' b : Nat} {v : Value} {x : Itm} {l : List Itm} {o : Nat}
theorem RdI.below (h : RdI w B v x) (hb : Below B w w') : RdI w' B v x := h.keep fun _ hp => hb.cell hp
theorem RdIs.below (h : RdIs w B b o l) (h0 : b < B) (hb : Below B w w') : RdIs w' B b o l := h.keep (fun _ hp => hb.cell hp) h0
theorem RdI.alloc (h : RdI w B v x) (hB : B ≤ w.heap.size) (ob : Obj) : RdI (w.alloc ob) B v x := h.keep fun p hp => World.cell?_alloc_lt w ob p (by omega)
theorem RdIs.get : ∀ {l : List Itm} {o : Nat}, RdIs w B b o l → ∀ i (hi : i < l.length), ∃ c0 c1 c2 c3 : Value, w.cell? ⟨b, o + i * 4, none⟩ = some c0 ∧ w.cell? ⟨b, o + i * 4 + 1, none⟩ = some c1 ∧ w.cell? ⟨b, o + i * 4 + 2, none⟩ = some c2 ∧ w.cell? ⟨b, o + i * 4 + 3, none⟩ = some c3 ∧ RdI w B (.agg #[c0, c1, c2, c3]) (l[i]'hi)
  | [], o, _, i, hi => absurd hi (Nat.not_lt_zero _)
  | x :: r, o, h, 0, hi => by
    rw [RdIs] at h
    simpa using h.1
  | x :: r, o, h, i + 1, hi => by
    rw [RdIs] at h
    have := RdIs.get h.2 i (by simpa using hi)
    rw [show o + (i + 1) * 4 = o + 4 + i * 4 by omega]
    simpa using this
theorem RdIs.of_get : ∀ {l : List Itm} {o : Nat}, (∀ i (hi : i < l.length), ∃ c0 c1 c2 c3 : Value, w.cell? ⟨b, o + i * 4, none⟩ = some c0 ∧ w.cell? ⟨b, o + i * 4 + 1, none⟩ = some c1 ∧ w.cell? ⟨b, o + i * 4 + 2, none⟩ = some c2 ∧ w.cell? ⟨b, o + i * 4 + 3, none⟩ = some c3 ∧ RdI w B (.agg #[c0, c1, c2, c3]) (l[i]'hi)) → RdIs w B b o l
  | [], o, _ => by rw [RdIs]; trivial
  | x :: r, o, h => by
    rw [RdIs]
    have h0 := h 0 (by simp)
    rw [Nat.zero_mul, Nat.add_zero] at h0
    refine ⟨h0, RdIs.of_get fun i hi => ?_⟩
    have := h (i + 1) (by simpa using hi)
    rw [show o + (i + 1) * 4 = o + 4 + i * 4 by omega] at this
    simpa using this
end
theorem RdI.open {w : World} {B : Nat} {v : Value} {k : Int} {n : Nat} {d : List UInt8} {l : List Itm} (h : RdI w B v (.mk k n d l)) :
    ∃ (A : Option Addr) (nd cd : Nat) (AL : Option Addr) (cl : Nat), v = .agg #[.int .i64 k, .int .u64 (n : Int), .slice A nd cd, .slice AL l.length cl] ∧
      (Lit.int .i64 k).wf = true ∧ n < 18446744073709551616 ∧ (nd ≤ cd ∧ nd ≤ 140737488355328) ∧ Rd w B A nd d ∧ (l.length ≤ cl ∧ l.length ≤ 140737488355328) ∧ (0 < l.length → ∃ b o, AL = some ⟨b, o, none⟩ ∧ b < B ∧ RdIs w B b o l) := by
  rw [RdI] at h
  obtain ⟨A, nd, cd, AL, nl, cl, e, h1, h2, h3, h4, h5, h6, h7⟩ := h
  subst h6
  exact ⟨A, nd, cd, AL, cl, e, h1, h2, h3, h4, h5, h7⟩
theorem RdI.form {w : World} {B : Nat} {v : Value} {x : Itm} (h : RdI w B v x) : ∃ (k : Int) (n : Nat) (A : Option Addr) (nd cd : Nat) (AL : Option Addr) (nl cl : Nat), v = .agg #[.int .i64 k, .int .u64 (n : Int), .slice A nd cd, .slice AL nl cl] := by
  obtain ⟨k, n, d, l⟩ := x
  obtain ⟨A, nd, cd, AL, cl, rfl, -, -, -, -, -, -⟩ := h.open
  exact ⟨_, _, _, _, _, _, _, _, rfl⟩
theorem par_get : ∀ {l : List Itm} {i : Nat} (hi : i < l.length), par (l[i]'hi) ≤ pars l
  | [], _, hi => absurd hi (Nat.not_lt_zero _)
  | x :: r, 0, _ => by rw [pars]; simp
  | x :: r, i + 1, hi => by
    have := par_get (l := r) (i := i) (by simpa using hi)
    rw [pars]
    simp
    omega
mutual
theorem RdI.siz {w : World} {B : Nat} : ∀ {x : Itm} {v : Value}, RdI w B v x → Siz x
  | .mk k n d l, v, h => by
    rw [RdI] at h
    obtain ⟨A, nd, cd, AL, nl, cl, e, h1, h2, h3, h4, h5, h6, h7⟩ := h
    have hd := h4.1
    refine ⟨h2, by omega, by omega, ?_⟩
    rcases Nat.eq_zero_or_pos nl with h0 | h0
    · have : l = [] := List.eq_nil_of_length_eq_zero (by omega)
      subst this; trivial
    · obtain ⟨b, o, ea, hb, hs⟩ := h7 h0
      exact RdIs.siz hs
theorem RdIs.siz {w : World} {B b : Nat} : ∀ {l : List Itm} {o : Nat}, RdIs w B b o l → Sizs l
  | [], _, _ => trivial
  | x :: r, o, h => by
    rw [RdIs] at h
    obtain ⟨⟨c0, c1, c2, c3, g0, g1, g2, g3, gx⟩, hr⟩ := h
    exact ⟨RdI.siz gx, RdIs.siz hr⟩
end
end Go.Proofs.YtlecbblmaadpiaaGreatDoor
/- The plain mathematics of layer 3: parts of lists of items. No program's number stands here. -/
namespace Go.Proofs.YtlecbblmaadpiaaGreatDoor
mutual
theorem dep_le : ∀ x : Itm, dep x ≤ par x
  | .mk k _ _ l => by have := deps_le l; rw [dep, par]; split <;> omega
theorem deps_le : ∀ l : List Itm, deps l ≤ pars l
  | [] => by rw [deps]; omega
  | x :: r => by have := dep_le x; have := deps_le r; rw [deps, pars]; omega
end
end Go.Proofs.YtlecbblmaadpiaaGreatDoor
/- Same of the reference: whether two slices of bytes read alike. -/
namespace Go.Proofs.YtlecbblmaadpiaaGreatDoor
open Go.RowKit
theorem same_any (A A' : Option Addr) (n c n' c' B B' : Nat) (l l' : List UInt8) (w : World) (h : Rd w B A n l) (h' : Rd w B' A' n' l') :
    Calls Tryz.prog 51 #[.slice A n c, .slice A' n' c'] w fun e w' => e = .returned (.bool (l == l')) ∧ w = w' := by
  have g := run_str (P := Tryz.prog) (c := c) h 27 5 9 Tryz.underlying27 Tryz.underlying5 Tryz.underlying9
  have g' := run_str (P := Tryz.prog) (c := c') h' 27 5 9 Tryz.underlying27 Tryz.underlying5 Tryz.underlying9
  clear h h'
  go_enter Tryz.func51, Tryz.ntmps51
  go_wp2
  go_ret
  exact ⟨rfl, rfl⟩
theorem same_true (A A' : Option Addr) (n c n' c' B B' : Nat) (l : List UInt8) (w : World) (h : Rd w B A n l) (h' : Rd w B' A' n' l) :
    Calls Tryz.prog 51 #[.slice A n c, .slice A' n' c'] w fun e w' => e = .returned (.bool true) ∧ w = w' :=
  (same_any A A' n c n' c' B B' l l w h h').mono fun _ _ ⟨he, hw⟩ => ⟨by rw [he, show (l == l) = true by simp], hw⟩
end Go.Proofs.YtlecbblmaadpiaaGreatDoor
/- What the reference of layer 3 returns: depth, parts, plain, size. -/
namespace Go.Proofs.YtlecbblmaadpiaaGreatDoor
open Go.RowKit
end Go.Proofs.YtlecbblmaadpiaaGreatDoor
/- Slices of bytes that a call made and may append to ('Ob'), and the built-in append onto them, whatever the source: nil, empty or not. No program's number stands here. -/
namespace Go.Proofs.YtlecbblmaadpiaaGreatDoor
open Go.RowKit
theorem bv_one (l : List UInt8) : ∀ u ∈ l.map bv, u.oneCell' = true := by
  intro u hu
  obtain ⟨x, _, rfl⟩ := List.mem_map.1 hu
  rfl
def Ob (w : World) (base : Nat) (t : TypeId) (v : Value) (l : List UInt8) : Prop := w.ownsRow base t 1 v l.length (l.map bv)
section
variable {w w' : World} {base : Nat} {t : TypeId} {v : Value} {l : List UInt8}
theorem Ob.nil_ (w : World) (base : Nat) (t : TypeId) : Ob w base t (.slice none 0 0) [] := World.ownsRow_nil w base t 1
theorem Ob.lit (w : World) (l : List UInt8) (cs : Array Value) (hcs : cs = (l.map bv).toArray) (hb : base ≤ w.heap.size) (n : Nat) (hn : l.length = n) (hm : n ≤ maxLen) : Ob (w.alloc (.cells cs t)) base t (.slice (some ⟨w.heap.size, 0, none⟩) n n) l := by
  subst hcs hn
  have h := World.ownsRow_lit (e := t) (size := 1) w (l.map bv).toArray l.length hb hm (by simp)
  exact h
theorem Ob.alloc (h : Ob w base t v l) (o : Obj) : Ob (w.alloc o) base t v l := World.ownsRow.alloc h o
theorem Ob.drew (h : Ob w base t v l) : Ob w.drew base t v l := h
theorem Ob.kept {row : Option Nat} (h : Ob w base t v l) (hg : w.grownBy w' row) (hne : v.ownBlock = none ∨ v.ownBlock ≠ row) : Ob w' base t v l := World.ownsRow.kept h hg hne
theorem Ob.below (h : Ob w base t v l) (hb : Below w.heap.size w w') : Ob w' base t v l :=
  World.ownsRow.kept h (row := none) ⟨hb.os, hb.tape, hb.output, hb.size, fun k hk _ => hb.block k hk⟩ (by cases v.ownBlock <;> simp)
theorem Ob.rd (h : Ob w base t v l) : ∃ (A : Option Addr) (c : Nat), v = .slice A l.length c ∧ l.length ≤ c ∧ c ≤ maxLen ∧ Rd w w.heap.size A l.length l := by
  rcases h.2 with ⟨hv, h0⟩ | ⟨g, cap, cur, hv, _, hg, hn, hm, _⟩
  · have e : l = [] := List.eq_nil_of_length_eq_zero h0
    subst e
    exact ⟨none, 0, hv, Nat.le_refl _, by decide, Rd.nil_⟩
  · refine ⟨some ⟨g, 0, none⟩, cap, hv, hn, hm, rfl, fun h0 => ⟨g, 0, rfl, ?_, fun i hi => ?_⟩⟩
    · have hb : v.ownBlock = some g := by rw [hv]; rfl
      exact (World.ownsRow.lt h g hb).2
    · have hc := World.ownsRow.cells h (g := g) (by rw [hv]; rfl) i (bv l[i]) (by simp [hi])
      simp only [List.getD, List.getElem?_eq_getElem hi]
      unfold Addr.add at hc
      by_cases h0 : i = 0
      · subst h0; simpa [bv] using hc
      · rw [if_neg h0] at hc; simpa [bv] using hc
end
section
variable {w w' : World} {base : Nat} {t : TypeId} {v : Value} {l : List UInt8}
theorem Ob.form (h : Ob w base t v l) (h0 : 0 < l.length) : ∃ g cap, v = .slice (some ⟨g, 0, none⟩) l.length cap ∧ base ≤ g ∧ g < w.heap.size ∧ l.length ≤ cap := by
  rcases h.2 with ⟨_, hn⟩ | ⟨g, cap, cur, hv, hbg, _, hn, _⟩
  · omega
  · exact ⟨g, cap, hv, hbg, (World.ownsRow.lt h g (by rw [hv]; rfl)).2, hn⟩
theorem Ob.rd_ {A : Option Addr} {n cap : Nat} (h : Ob w base t (.slice A n cap) l) : l.length = n ∧ Rd w w.heap.size A n l ∧ n ≤ cap ∧ cap ≤ maxLen := by
  obtain ⟨A2, c2, hv, hc, hm, hr⟩ := h.rd
  injection hv with h1 h2 h3
  subst h1 h2 h3
  exact ⟨rfl, hr, hc, hm⟩
variable {g cap n : Nat}
theorem Ob.cell (h : Ob w base t (.slice (some ⟨g, 0, none⟩) n cap) l) (hn : l.length = n) {j : Nat} (hj : j < n) : w.cell? ⟨g, j, none⟩ = some (.int .u8 ((l.getD j 0).toNat : Int)) := by
  subst hn
  have := World.ownsRow.cellAt h j (by omega)
  rw [this]
  simp [List.getD, hj, bv]
theorem Ob.frozen (h : Ob w base t (.slice (some ⟨g, 0, none⟩) n cap) l) (hn : l.length = n) (j : Nat) : w.frozen? ⟨g, j, none⟩ = false := by
  subst hn
  exact World.ownsRow.frozenAt h j
theorem Ob.stored (h : Ob w base t (.slice (some ⟨g, 0, none⟩) n cap) l) (hn : l.length = n) (j : Nat) (x : UInt8) {u : Value} (hu : u = .int .u8 (x.toNat : Int)) : Ob (w.setCell ⟨g, j, none⟩ u) base t (.slice (some ⟨g, 0, none⟩) n cap) (l.set j x) := by
  subst hn hu
  have := World.ownsRow.stored h j (bv x)
  unfold Ob
  rw [List.length_set, List.map_set]
  exact this.1
end
section
variable {P : Program} (w : World)
theorem run_app_none (base : Nat) (t ty e : TypeId) (i : TypeInfo) (ht : P.underlying t = some (.slice e)) (hi : P.info? e = some i) (v : Value) (l : List UInt8) (hown : Ob w base e v l) (c : Nat) :
    (Builtin.append_ #[t, t] ty #[v, .slice none 0 c]).run P w = .ok v w := by
  rcases hown.2 with ⟨rfl, hn⟩ | ⟨g, cap, cur, rfl, _, _, hnc, _⟩
  · simp [Builtin.append_, run_underlying ht, sizeOf, typeInfo, hi, Builtin.lenOf, Builtin.firstCells]
  · simp [Builtin.append_, run_underlying ht, sizeOf, typeInfo, hi, Builtin.lenOf, Builtin.firstCells, hnc, storeCells]
theorem run_app (base : Nat) (t ty e : TypeId) (ht : P.underlying t = some (.slice e)) (hinfo : (P.info? e).map (fun i => (i.zero, i.size, i.bytes)) = some (some (.int .u8 0), 1, 1))
    (v : Value) (l : List UInt8) (hown : Ob w base e v l) (B : Nat) (A : Option Addr) (m c : Nat) (news : List UInt8) (hr : Rd w B A m news) (hbound : l.length + m ≤ 140737488355328) (hbase : base ≤ w.heap.size) :
    ∃ v' w', (Builtin.append_ #[t, t] ty #[v, .slice A m c]).run P w = .ok v' w' ∧ Ob w' base e v' (l ++ news) ∧ w.grownBy w' v.ownBlock ∧ (v'.ownBlock = v.ownBlock ∨ v'.ownBlock = some w.heap.size) := by
  obtain ⟨i, hi, hzz⟩ := Option.map_eq_some_iff.1 hinfo
  simp only [Prod.mk.injEq] at hzz
  obtain ⟨hz, hs, hb⟩ := hzz
  have hlen := hr.1
  rcases A with _ | ad
  · have h0 : m = 0 := by
      rcases Nat.eq_zero_or_pos m with h | h
      · exact h
      · obtain ⟨_, _, h', _⟩ := hr.2 h
        cases h'
    subst h0
    have hn : news = [] := List.eq_nil_of_length_eq_zero hlen
    subst hn
    exact ⟨v, w, run_app_none w base t ty e i ht hi v l hown c, by simpa using hown, World.grownBy.refl w _, .inl rfl⟩
  · have hcells : ∀ j u, (news.map bv)[j]? = some u → w.cell? (ad.add j) = some u := by
      intro j u hu
      rcases Nat.eq_zero_or_pos m with h0 | h0
      · have hn : news = [] := List.eq_nil_of_length_eq_zero (by omega)
        subst hn
        simp at hu
      · obtain ⟨b, o, e1, _, hc⟩ := hr.2 h0
        injection e1 with e1
        subst e1
        have hj : j < news.length := by
          rcases Nat.lt_or_ge j news.length with h | h
          · exact h
          · rw [List.getElem?_eq_none (by simpa using h)] at hu; cases hu
        have h := hc j (by omega)
        have ea : (⟨b, o, none⟩ : Addr).add j = ⟨b, o + j, none⟩ := by unfold Addr.add; split <;> simp_all
        rw [ea, h, ← hu]
        simp [List.getD, hj, bv]
    obtain ⟨v', w', hrun, h2, h3, _, h5⟩ := run_append_own_at (P := P) w base t ty e i (.int .u8 0) 1 1 ht hi hz hs hb rfl (by decide) v l.length (l.map bv) hown ad m c (news.map bv) (by simp [hlen]) hcells (bv_one news)
      (by unfold maxLen; omega) (by omega) hbase
    refine ⟨v', w', hrun, ?_, h3, h5⟩
    unfold Ob
    rw [List.length_append, hlen, List.map_append]
    exact h2
theorem wpList_app {w : World} {ops : Array Oper} {rest : List Oper} {o : Oper} {a : Act} {Q : Exit → Act → World → Prop} (hgd : o.guard = none) (s x : Operand) (t : TypeId)
    (ho : o.op = .call { callee := .builtin .append, args := #[s, x], argTypes := #[t, t] })
    (base : Nat) (e : TypeId) (ht : P.underlying t = some (.slice e)) (hinfo : (P.info? e).map (fun i => (i.zero, i.size, i.bytes)) = some (some (.int .u8 0), 1, 1))
    (v : Value) (l : List UInt8) (hs : a.eval s = v) (hown : Ob w base e v l) (B : Nat) (A : Option Addr) (m c : Nat) (news : List UInt8) (hx : a.eval x = .slice A m c) (hr : Rd w B A m news)
    (hbound : l.length + m ≤ 140737488355328) (hbase : base ≤ w.heap.size)
    (h : ∀ v' w', Ob w' base e v' (l ++ news) → w.grownBy w' v.ownBlock → (v'.ownBlock = v.ownBlock ∨ v'.ownBlock = some w.heap.size) → wpList P ops Q rest (a.put o.dst v') w') : wpList P ops Q (o :: rest) a w := by
  refine wpList_plain hgd fun K hK => ?_
  obtain ⟨v', w', hrun, h2, h3, h4⟩ := run_app (P := P) w base t o.type e ht hinfo v l hown B A m c news hr hbound hbase
  unfold Oper.wp execOp
  simp only [ho, resolve, invoke, builtin, Sem.run_bind, Sem.run_pure, Result.andThen_ok, List.map_toArray, List.map_cons, List.map_nil, hs, hx, hrun]
  exact hK _ _ (h v' w' h2 h3 h4)
theorem le_alloc (w : World) (o : Obj) : w.heap.size ≤ (w.alloc o).heap.size := by simp
theorem wpList_appB {w : World} {ops : Array Oper} {rest : List Oper} {o : Oper} {a : Act} {Q : Exit → Act → World → Prop} (hgd : o.guard = none) (s x : Operand) (t : TypeId)
    (ho : o.op = .call { callee := .builtin .append, args := #[s, x], argTypes := #[t, t] })
    (base : Nat) (e : TypeId) (ht : P.underlying t = some (.slice e)) (hinfo : (P.info? e).map (fun i => (i.zero, i.size, i.bytes)) = some (some (.int .u8 0), 1, 1))
    (v : Value) (l : List UInt8) (hs : a.eval s = v) (hown : Ob w base e v l) (B : Nat) (A : Option Addr) (m c : Nat) (news : List UInt8) (hx : a.eval x = .slice A m c) (hr : Rd w B A m news)
    (hbound : l.length + m ≤ 140737488355328) (hbase : base ≤ w.heap.size)
    (h : ∀ v' w', Ob w' base e v' (l ++ news) → Below base w w' → wpList P ops Q rest (a.put o.dst v') w') : wpList P ops Q (o :: rest) a w :=
  wpList_app hgd s x t ho base e ht hinfo v l hs hown B A m c news hx hr hbound hbase fun v' w' h1 h2 _ =>
    h v' w' h1 ⟨h2.os, h2.tape, h2.output, h2.size, fun k hk => h2.block k (by omega) (fun e => by have := (World.ownsRow.lt hown k e.symm).1; omega)⟩
end
end Go.Proofs.YtlecbblmaadpiaaGreatDoor
/- What Put of layer 1's reference, and Head of layer 3's, return: slices of the call's own. -/
namespace Go.Proofs.YtlecbblmaadpiaaGreatDoor
open Go.RowKit
def GivesO (t : TypeId) (l : List UInt8) (w : World) (e : Ending) (w' : World) : Prop := ∃ v, e = .returned v ∧ Ob w' w.heap.size t v l ∧ Below w.heap.size w w'
theorem Ob.rdn {w : World} {base n : Nat} {t : TypeId} {v : Value} {l : List UInt8} (h : Ob w base t v l) (hl : l.length = n) : ∃ (A : Option Addr) (c : Nat), v = .slice A n c ∧ n ≤ c ∧ c ≤ maxLen ∧ Rd w w.heap.size A n l := by
  subst hl
  exact h.rd
end Go.Proofs.YtlecbblmaadpiaaGreatDoor
/- What write of layer 3's reference returns, of a right item. What write of layer 3's reference returns, of every right item. -/
namespace Go.Proofs.YtlecbblmaadpiaaGreatDoor
open Go.RowKit
section
variable {P : Program} {w : World}
end
end Go.Proofs.YtlecbblmaadpiaaGreatDoor
/- What Put returns: the lowest bytes of a number, the highest first, in new memory. -/
namespace Go.Proofs.YtlecbblmaadpiaaGreatDoor
open Go.RowKit
end Go.Proofs.YtlecbblmaadpiaaGreatDoor
/- What Head of layer 3 returns. -/
namespace Go.Proofs.YtlecbblmaadpiaaGreatDoor
open Go.RowKit
def HdSt (n c S : Nat) : Prop := (c = 24 ∧ S = 1) ∨ (c = 25 ∧ S = 2 ∧ 256 ≤ n) ∨ (c = 26 ∧ S = 4 ∧ 65536 ≤ n) ∨ (c = 27 ∧ S = 8 ∧ 4294967296 ≤ n)
theorem HdSt.next {n c S : Nat} (h : HdSt n c S) (h8 : S < 8) (hd : 2 ^ (8 * S) ≤ n) : HdSt n (c + 1) (S * 2) := by
  unfold HdSt
  rcases h with ⟨rfl, rfl⟩ | ⟨rfl, rfl, h1⟩ | ⟨rfl, rfl, h1⟩ | ⟨rfl, rfl, h1⟩ <;> simp at hd <;> omega
theorem HdSt.bd {n c S : Nat} (h : HdSt n c S) : 24 ≤ c ∧ c ≤ 27 ∧ 1 ≤ S ∧ S ≤ 8 := by
  unfold HdSt at h; omega
end Go.Proofs.YtlecbblmaadpiaaGreatDoor
/- What write and writeAll of layer 3 return, of every right item: its bytes behind those that were there. -/
namespace Go.Proofs.YtlecbblmaadpiaaGreatDoor
open Go.RowKit
structure Run (v : Value) (w : World) (v' : Value) (w' : World) : Prop where
  grown : w.grownBy w' v.ownBlock
  own : v'.ownBlock = v.ownBlock ∨ ∃ k, v'.ownBlock = some k ∧ w.heap.size ≤ k
section
variable {v v1 v2 : Value} {w w1 w2 : World} {base : Nat} {t : TypeId} {l : List UInt8}
theorem Run.refl (v : Value) (w : World) : Run v w v w := ⟨World.grownBy.refl w _, .inl rfl⟩
theorem Run.trans (h : Run v w v1 w1) (k : Run v1 w1 v2 w2) : Run v w v2 w2 := by
  refine ⟨⟨k.grown.os.trans h.grown.os, k.grown.tape.trans h.grown.tape, k.grown.output.trans h.grown.output, Nat.le_trans h.grown.size k.grown.size, fun i hi hne => ?_⟩, ?_⟩
  · refine (k.grown.block i (Nat.lt_of_lt_of_le hi h.grown.size) (fun e => ?_)).trans (h.grown.block i hi hne)
    rcases h.own with ho | ⟨q, ho, hq⟩
    · exact hne (e.trans ho)
    · rw [ho] at e; injection e with e; omega
  · rcases k.own with ko | ⟨q, ko, hq⟩
    · rcases h.own with ho | ⟨q, ho, hq⟩
      · exact .inl (ko.trans ho)
      · exact .inr ⟨q, ko.trans ho, hq⟩
    · exact .inr ⟨q, ko, Nat.le_trans h.grown.size hq⟩
theorem Run.quiet (h : Run v w v1 w1) (hb : Below w1.heap.size w1 w2) : Run v w v1 w2 :=
  h.trans ⟨⟨hb.os, hb.tape, hb.output, hb.size, fun k hk _ => hb.block k hk⟩, .inl rfl⟩
theorem Run.alloc (h : Run v w v1 w1) (o : Obj) : Run v w v1 (w1.alloc o) := h.quiet ((Below.refl _ _).alloc (Nat.le_refl _) o)
theorem Run.drew (h : Run v w v1 w1) : Run v w v1 w1.drew := h.quiet ((Below.refl _ _).drew)
theorem Run.below (h : Run v w v1 w1) (ho : Ob w base t v l) (hbase : base ≤ w.heap.size) : Below base w w1 :=
  ⟨h.grown.os, h.grown.tape, h.grown.output, h.grown.size, fun k hk => h.grown.block k (by omega) (fun e => by have := (World.ownsRow.lt ho k e.symm).1; omega)⟩
theorem Run.cell (h : Run v w v1 w1) {p : Addr} (hp : p.block < w.heap.size) (hne : v.ownBlock ≠ some p.block) : w1.cell? p = w.cell? p :=
  World.cell?_of_block (w := w) (h.grown.block p.block hp (fun e => hne e.symm))
theorem Run.ne (h : Run v w v1 w1) {k : Nat} (hk : k < w.heap.size) (hne : v.ownBlock ≠ some k) : v1.ownBlock ≠ some k := fun e => by
  rcases h.own with ho | ⟨q, ho, hq⟩
  · exact hne (ho.symm.trans e)
  · rw [ho] at e; injection e with e; omega
end
section
variable {P : Program} {w : World}
end
theorem Ob.apart {w : World} {base : Nat} {t : TypeId} {v : Value} {l : List UInt8} (h : Ob w base t v l) : v.ownBlock ≠ some w.heap.size := fun e => by
  have := (World.ownsRow.lt h _ e).2
  omega
end Go.Proofs.YtlecbblmaadpiaaGreatDoor
