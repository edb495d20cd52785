/- What copied of layer 6 returns. (Made by gen/bun.py.) -/
import Derived.Test.YtlecbblmaadpiaaGreatDoorJBlkW2
import Derived.Test.YtlecbblmaadpiaaGreatDoorJBunC
import Derived.Test.YtlecbblmaadpiaaGreatDoorJBunFr
import Derived.Test.YtlecbblmaadpiaaGreatDoorJBunS
import Derived.Test.YtlecbblmaadpiaaGreatDoorJCrcS
import Derived.Test.YtlecbblmaadpiaaGreatDoorJIpX
import Derived.Test.YtlecbblmaadpiaaGreatDoorJRfC
import Derived.Test.YtlecbblmaadpiaaGreatDoorJRfK
import Derived.WalkMore
import Derived.Deep.RegionHeld3
import Derived.ArgAppend
import Derived.StillTailTactics
import Derived.Deep.RegionLawGrows
import Derived.BigRegion
namespace Go.Proofs.YtlecbblmaadpiaaGreatDoor
open Go.RowKit
theorem SrcK.below {w w' : World} {B : Nat} {p : PK} (h : SrcK w B p) (hb : Below B w w') : SrcK w' B p := ⟨h.1, h.2.1, h.2.2.below hb⟩
structure CpSt (lo base B g cap n : Nat) (W5 : World) (l : List Blk) (k : Nat) (wr : World) (qs : List PK) : Prop where
  own : wr.ownsRow base 48 5 (.slice (some ⟨g, 0, none⟩) n cap) n (rowK qs)
  map : qs.map (·.x) = l
  len : qs.length = n
  done : ∀ j (hj : j < qs.length), j < k → OkK lo wr (.slice (some ⟨g, 0, none⟩) n cap) qs[j]
  rest : ∀ j (hj : j < qs.length), k ≤ j → SrcK wr B qs[j]
  bel : Below base W5 wr
theorem CpSt.blk {lo base B g cap n : Nat} {W5 : World} {l : List Blk} {k : Nat} {wr : World} {qs : List PK} (h : CpSt lo base B g cap n W5 l k wr qs) : base ≤ g ∧ g < wr.heap.size := World.ownsRow.lt h.own g rfl
theorem rowK_at : ∀ (qs : List PK) (k : Nat) (hk : k < qs.length), (rowK qs)[k * 5 + 4]? = some (.slice qs[k].A qs[k].nd qs[k].cd)
  | p :: r, 0, _ => rfl
  | p :: r, k + 1, hk => by
    rw [rowK, List.getElem?_append_right (by simp [fiveK]; omega)]
    have := rowK_at r k (by simpa using hk)
    rw [show (k + 1) * 5 + 4 - (fiveK p).length = k * 5 + 4 by simp [fiveK]; omega, this]
    rfl
theorem CpSt.cell {lo base B g cap n : Nat} {W5 : World} {l : List Blk} {k : Nat} {wr : World} {qs : List PK} (h : CpSt lo base B g cap n W5 l k wr qs) {j : Nat} (hj : j < qs.length) : wr.cell? ⟨g, j * 5 + 4, none⟩ = some (.slice qs[j].A qs[j].nd qs[j].cd) := by
  rw [World.ownsRow.cellAt h.own _ (by rw [← h.len]; omega)]
  exact rowK_at qs j hj
theorem CpSt.step {lo base B g cap n : Nat} {W5 : World} {l : List Blk} {k : Nat} {wr wc : World} {qs : List PK} (h : CpSt lo base B g cap n W5 l k wr qs) (hlo : lo ≤ base) (hB : B ≤ base) (hk : k < qs.length) (hb : Below wr.heap.size wr wc)
    {A : Option Addr} {c : Nat} (hO : Ob wc wr.heap.size 5 (.slice A qs[k].nd c) qs[k].x.dat) :
    CpSt lo base B g cap n W5 l (k + 1) (wc.setCell ⟨g, k * 5 + 4, none⟩ (.slice A qs[k].nd c)) (qs.set k ⟨qs[k].x, A, qs[k].nd, c⟩) := by
  have hg := h.blk
  have hsrc := h.rest k hk (Nat.le_refl _)
  have hrd : n = n ∧ qs[k].nd ≤ c ∧ Rd wc wc.heap.size A qs[k].nd qs[k].x.dat := by
    obtain ⟨A', c', hv, hc, -, hr⟩ := hO.rdn hsrc.2.2.1
    injection hv with h1 h2 h3
    subst h1 h3
    exact ⟨rfl, hc, hr⟩
  have hnew : ∀ b o, A = some ⟨b, o, none⟩ → wr.heap.size ≤ b := fun b o e => (World.ownsRow.lt hO b (by rw [e]; rfl)).1
  have hoff : ∀ {B' : Nat} {A' : Option Addr} {m : Nat} {d : List UInt8}, Rd wc B' A' m d → (0 < m → ∀ b o, A' = some ⟨b, o, none⟩ → b ≠ g) → B' ≤ wc.heap.size → Rd (wc.setCell ⟨g, k * 5 + 4, none⟩ (.slice A qs[k].nd c)) B' A' m d := fun hr hne _ => ⟨hr.1, fun h0 => by
    obtain ⟨b, o, e, hlt, hc⟩ := hr.2 h0
    exact ⟨b, o, e, hlt, fun i hi => by rw [World.cell?_setCell_far _ _ _ _ (by have := hne h0 b o e; show ¬ g = b; omega)]; exact hc i hi⟩⟩
  have hsz : (wc.setCell ⟨g, k * 5 + 4, none⟩ (.slice A qs[k].nd c)).heap.size = wc.heap.size := by simp [World.setCell]
  have hbw : Below base wr wc := hb.mono (by omega)
  refine ⟨?_, ?_, ?_, ?_, ?_, ?_⟩
  · rw [rowK_set]
    exact (World.ownsRow.stored (ownsRow_below h.own hb) _ _).1
  · rw [List.map_set, ← h.map]
    apply List.ext_getElem?
    intro i
    rw [List.getElem?_set]
    split
    · rename_i hi
      subst hi
      rw [List.length_map, if_pos hk]
      simp [hk]
    · rfl
  · rw [List.length_set]; exact h.len
  · intro j hj hjk
    rw [List.length_set] at hj
    by_cases he : j = k
    · subst he
      rw [List.getElem_set_self]
      refine ⟨hsrc.1, ⟨hrd.2.1, hsrc.2.1.2⟩, ?_, ?_, ?_⟩
      · rw [hsz]
        exact hoff hrd.2.2 (fun _ b o e => by have := hnew b o e; omega) (Nat.le_refl _)
      · intro _ b o e hh
        injection hh with hh
        have := hnew b o e
        have hh' : g = b := hh
        omega
      · intro _ b o e
        have := hnew b o e
        omega
    · rw [List.getElem_set_ne (by omega)]
      have ho := (h.done j hj (by omega)).below hb
      refine ⟨ho.bd, ho.le, ?_, ho.far, ho.new⟩
      rw [hsz]
      exact hoff ho.rd (fun h0 b o e hh => ho.far h0 b o e (by rw [hh]; rfl)) (Nat.le_refl _)
  · intro j hj hjk
    rw [List.length_set] at hj
    rw [List.getElem_set_ne (by omega)]
    have hs := (h.rest j hj (by omega)).below (hbw.mono hB)
    refine ⟨hs.1, hs.2.1, hoff hs.2.2 (fun h0 b o e hh => ?_) (by have := hb.size; omega)⟩
    obtain ⟨b', o', e', hlt, -⟩ := hs.2.2.2 h0
    rw [e] at e'
    injection e' with e'
    injection e' with e1 e2
    omega
  · exact (h.bel.trans hbw).setCell (p := ⟨g, k * 5 + 4, none⟩) hg.1 _
end Go.Proofs.YtlecbblmaadpiaaGreatDoor
/- What copied of layer 6 returns: the walk. (Made by gen/bun.py.) -/
namespace Go.Proofs.YtlecbblmaadpiaaGreatDoor
open Go.RowKit
end Go.Proofs.YtlecbblmaadpiaaGreatDoor
/- What Drop of layer 6 returns. (Made by gen/bun.py.) -/
namespace Go.Proofs.YtlecbblmaadpiaaGreatDoor
open Go.RowKit
theorem rowK_split (ps : List PK) (k : Nat) : rowK (ps.take k) ++ rowK (ps.drop k) = rowK ps := by rw [← rowK_app, List.take_append_drop]
theorem rowK_take {ps : List PK} {k : Nat} (_hk : k ≤ ps.length) {j : Nat} {u : Value} (h : (rowK (ps.take k))[j]? = some u) : (rowK ps)[j]? = some u := by
  rw [← rowK_split ps k, List.getElem?_append_left]
  · exact h
  · rcases Nat.lt_or_ge j (rowK (ps.take k)).length with h' | h'
    · exact h'
    · rw [List.getElem?_eq_none h'] at h; cases h
theorem rowK_drop {ps : List PK} {k : Nat} (hk : k ≤ ps.length) {j : Nat} {u : Value} (h : (rowK (ps.drop k))[j]? = some u) : (rowK ps)[k * 5 + j]? = some u := by
  have hl : (rowK (ps.take k)).length = k * 5 := by rw [rowK_len, List.length_take]; omega
  rw [← rowK_split ps k, List.getElem?_append_right (by omega), hl, Nat.add_sub_cancel_left]
  exact h
theorem rowK_src {w : World} {B B' b : Nat} (hB : B ≤ B') : ∀ (ps : List PK) (o : Nat), (∀ j u, (rowK ps)[j]? = some u → w.cell? ⟨b, o + j, none⟩ = some u) → (∀ p ∈ ps, SrcK w B p) → RdKs w B' b o (ps.map (·.x))
  | [], _, _, _ => trivial
  | p :: r, o, hc, ho => by
    have hp := ho p (by simp)
    have h0 : ∀ j u, (fiveK p)[j]? = some u → w.cell? ⟨b, o + j, none⟩ = some u := fun j u hj => hc j u (by
      rw [rowK, List.getElem?_append_left]
      · exact hj
      · rcases Nat.lt_or_ge j (fiveK p).length with h | h
        · exact h
        · rw [List.getElem?_eq_none h] at hj; cases hj)
    refine ⟨⟨p.A, p.nd, p.cd, ⟨h0 0 _ rfl, h0 1 _ rfl, h0 2 _ rfl, h0 3 _ rfl, h0 4 _ rfl, hp.1, hp.2.1, hp.2.2.more hB⟩⟩, rowK_src hB r (o + 5) (fun j u hj => ?_) (fun q hq => ho q (by simp [hq]))⟩
    rw [show o + 5 + j = o + (5 + j) by omega]
    refine hc (5 + j) u ?_
    rw [rowK, List.getElem?_append_right (by simp [fiveK])]
    simpa [fiveK] using hj
theorem own_src {w : World} {base B g cap m : Nat} {ps : List PK} (h : w.ownsRow base 48 5 (.slice (some ⟨g, 0, none⟩) m cap) m (rowK ps)) (hl : ps.length = m) (hs : ∀ p ∈ ps, SrcK w B p) (hB : B ≤ w.heap.size) (hm : m ≤ 140737488355328) :
    RdL w w.heap.size (some ⟨g, 0, none⟩) m (ps.map (·.x)) := by
  refine ⟨by rw [List.length_map, hl], fun _ => ⟨g, 0, rfl, (World.ownsRow.lt h g rfl).2, rowK_src hB ps 0 (fun j u hj => ?_) hs⟩, hm⟩
  have hjl : j < m * 5 := by
    rw [← hl, ← rowK_len]
    rcases Nat.lt_or_ge j (rowK ps).length with h | h
    · exact h
    · rw [List.getElem?_eq_none h] at hj; cases hj
  rw [Nat.zero_add, World.ownsRow.cellAt h j hjl]
  exact hj
def DropU (h : BH) (l : List Blk) (q : Nat) (w : World) (e : Ending) (w' : World) : Prop := Below w.heap.size w w' ∧
  ((∃ k : Nat, cauU (h.bun l) = 0 ∧ plc (pNum q) l 0 = (k : Int) ∧ k + 1 < l.length ∧ ∃ (A : Option Addr) (n c : Nat), e = .returned (.tuple #[bunV h A n c, .int .i64 0]) ∧ RdL (mask (lows w.heap.size) w') w'.heap.size A n (l.take k ++ l.drop (k + 1)) ∧ n ≤ c) ∨
   (¬ (cauU (h.bun l) = 0 ∧ 0 ≤ plc (pNum q) l 0 ∧ plc (pNum q) l 0 + 1 < (l.length : Int)) ∧ ∃ z, z ≠ 0 ∧ e = .returned (.tuple #[.agg #[.int .u64 0, .int .i64 0, .int .i64 0, .string ⟨#[]⟩, .int .u64 0, .int .u64 0, .int .i64 0, .string ⟨#[]⟩, .int .u64 0, .int .u64 0, .int .i64 0, .string ⟨#[]⟩, .int .u64 0, .int .u64 0, .int .u64 0, .int .u64 0, .int .u64 0, .slice none 0 0], .int .i64 z])))
def DropZ (h : BH) (l : List Blk) (q : Nat) (w : World) (e : Ending) (w' : World) : Prop := Below w.heap.size w w' ∧
  ((∃ k : Nat, cauU (h.bun l) = 0 ∧ plc (pNum q) l 0 = (k : Int) ∧ k + 1 < l.length ∧ ∃ (A : Option Addr) (n c : Nat), e = .returned (.tuple #[bunV h A n c, .int .i64 0]) ∧ RdL (mask (lows w.heap.size) w') w'.heap.size A n (l.take k ++ l.drop (k + 1)) ∧ n ≤ c) ∨
   (¬ (cauU (h.bun l) = 0 ∧ 0 ≤ plc (pNum q) l 0 ∧ plc (pNum q) l 0 + 1 < (l.length : Int)) ∧ ∃ z, z ≠ 0 ∧ z = (if cauU (h.bun l) = 0 then 60 else numZ (cauU (h.bun l))) ∧ e = .returned (.tuple #[.agg #[.int .u64 0, .int .i64 0, .int .i64 0, .string ⟨#[]⟩, .int .u64 0, .int .u64 0, .int .i64 0, .string ⟨#[]⟩, .int .u64 0, .int .u64 0, .int .i64 0, .string ⟨#[]⟩, .int .u64 0, .int .u64 0, .int .u64 0, .int .u64 0, .int .u64 0, .slice none 0 0], .int .i64 z])))
theorem DropZ.old {h : BH} {l : List Blk} {q : Nat} {w : World} {e : Ending} {w' : World} (x : DropZ h l q w e w') : DropU h l q w e w' :=
  ⟨x.1, x.2.elim .inl (fun ⟨h1, z, h2, _, h4⟩ => .inr ⟨h1, z, h2, h4⟩)⟩
end Go.Proofs.YtlecbblmaadpiaaGreatDoor
/- What Put of layer 6 returns. (Made by gen/bun.py.) -/
namespace Go.Proofs.YtlecbblmaadpiaaGreatDoor
open Go.RowKit
def putB (l : List Blk) (x : Blk) : List Blk := l.take (l.length - 1) ++ x :: l.drop (l.length - 1)
def PutU (h : BH) (l : List Blk) (x : Blk) (w : World) (e : Ending) (w' : World) : Prop := Below w.heap.size w w' ∧
  ((cauU (h.bun l) = 0 ∧ cauU (h.bun (putB l x)) = 0 ∧ ∃ (A : Option Addr) (n c : Nat), e = .returned (.tuple #[bunV h A n c, .int .i64 0]) ∧ RdL (mask (lows w.heap.size) w') w'.heap.size A n (putB l x) ∧ n ≤ c) ∨
   (¬ (cauU (h.bun l) = 0 ∧ cauU (h.bun (putB l x)) = 0) ∧ ∃ z, z ≠ 0 ∧ e = .returned (.tuple #[.agg #[.int .u64 0, .int .i64 0, .int .i64 0, .string ⟨#[]⟩, .int .u64 0, .int .u64 0, .int .i64 0, .string ⟨#[]⟩, .int .u64 0, .int .u64 0, .int .i64 0, .string ⟨#[]⟩, .int .u64 0, .int .u64 0, .int .u64 0, .int .u64 0, .int .u64 0, .slice none 0 0], .int .i64 z])))
def PutZ (h : BH) (l : List Blk) (x : Blk) (w : World) (e : Ending) (w' : World) : Prop := Below w.heap.size w w' ∧
  ((cauU (h.bun l) = 0 ∧ cauU (h.bun (putB l x)) = 0 ∧ ∃ (A : Option Addr) (n c : Nat), e = .returned (.tuple #[bunV h A n c, .int .i64 0]) ∧ RdL (mask (lows w.heap.size) w') w'.heap.size A n (putB l x) ∧ n ≤ c) ∨
   (¬ (cauU (h.bun l) = 0 ∧ cauU (h.bun (putB l x)) = 0) ∧ ∃ z, z ≠ 0 ∧ z = (if cauU (h.bun l) = 0 then numZ (cauU (h.bun (putB l x))) else numZ (cauU (h.bun l))) ∧ e = .returned (.tuple #[.agg #[.int .u64 0, .int .i64 0, .int .i64 0, .string ⟨#[]⟩, .int .u64 0, .int .u64 0, .int .i64 0, .string ⟨#[]⟩, .int .u64 0, .int .u64 0, .int .i64 0, .string ⟨#[]⟩, .int .u64 0, .int .u64 0, .int .u64 0, .int .u64 0, .int .u64 0, .slice none 0 0], .int .i64 z])))
theorem PutZ.old {h : BH} {l : List Blk} {x : Blk} {w : World} {e : Ending} {w' : World} (y : PutZ h l x w e w') : PutU h l x w e w' :=
  ⟨y.1, y.2.elim .inl (fun ⟨h1, z, h2, _, h4⟩ => .inr ⟨h1, z, h2, h4⟩)⟩
end Go.Proofs.YtlecbblmaadpiaaGreatDoor
/- What Decode of layer 6 returns. (Made by gen/bun.py.) -/
namespace Go.Proofs.YtlecbblmaadpiaaGreatDoor
open Go.RowKit
end Go.Proofs.YtlecbblmaadpiaaGreatDoor
/- The statements' plain bundle, and few of layer 6. (Made by gen/bun.py.) -/
namespace Go.Proofs.YtlecbblmaadpiaaGreatDoor
open Go.RowKit
end Go.Proofs.YtlecbblmaadpiaaGreatDoor
/- Closed facts of the statements' heads of layer 6; what Encode and Decode make of one another. (Made by gen/bun.py.) -/
namespace Go.Proofs.YtlecbblmaadpiaaGreatDoor
open Go.RowKit
theorem IsBun.uniq {l : List UInt8} {a b : Bun} (ha : IsBun l a) (hb : IsBun l b) : a = b := by
  obtain ⟨m, rfl⟩ : ∃ m, l = 0x9f :: m := ⟨_, ha.2.2.2.1⟩
  obtain ⟨p1, d1⟩ := ha.prim
  obtain ⟨p2, d2⟩ := hb.prim
  have h3 := p1.uniq p2
  have h4 : primW a = primW b := by
    have := congrArg primW h3
    exact this
  rw [h4, d2] at d1
  obtain ⟨h5, -⟩ := blkWs_uniq hb.2.2.1 ha.2.2.1 d1
  obtain ⟨af, ac, ad, as_, ar, at_, aq, al, ak⟩ := a
  obtain ⟨bf, bc, bd, bs, br, bt, bq, bl, bk⟩ := b
  simp only at h5
  subst h5
  exact congrArg (fun q : Bun => { q with blks := bk }) h3
end Go.Proofs.YtlecbblmaadpiaaGreatDoor
/- What the statements of layer 6 need of bundles: written and read, put and taken away. (Made by gen/bun.py.) -/
namespace Go.Proofs.YtlecbblmaadpiaaGreatDoor
open Go.RowKit
theorem RdKs.bd {w : World} {B b : Nat} : ∀ {l : List Blk} {o : Nat}, RdKs w B b o l → ∀ y ∈ l, Bd y
  | [], _, _, _, h => by cases h
  | x :: r, _, ⟨⟨_, _, _, hk⟩, hr⟩, y, hy => by
    rcases List.mem_cons.1 hy with rfl | hy
    · exact hk.bd
    · exact RdKs.bd hr y hy
theorem RdL.bd {w : World} {B n : Nat} {A : Option Addr} {l : List Blk} (h : RdL w B A n l) : ∀ y ∈ l, Bd y := by
  intro y hy
  have h0 : 0 < n := by
    rw [← h.1]
    exact List.length_pos_of_mem hy
  obtain ⟨b, o, -, -, hk⟩ := h.2.1 h0
  exact hk.bd y hy
end Go.Proofs.YtlecbblmaadpiaaGreatDoor
/- Two bundles have one key just if they have one source, time and sequence number. (Made by gen/bun.py.) -/
namespace Go.Proofs.YtlecbblmaadpiaaGreatDoor
open Go.RowKit
open Go.Lib (decDigits)
end Go.Proofs.YtlecbblmaadpiaaGreatDoor
/- What Same of the references of layers 5 and 6 return, of what is one. (Made by gen/bun.py.) -/
namespace Go.Proofs.YtlecbblmaadpiaaGreatDoor
open Go.RowKit
end Go.Proofs.YtlecbblmaadpiaaGreatDoor
/- What the statements' heads of layer 6 return. (Made by gen/bun.py.) -/
namespace Go.Proofs.YtlecbblmaadpiaaGreatDoor
open Go.RowKit
end Go.Proofs.YtlecbblmaadpiaaGreatDoor
/- What few of layer 6's statements returns: a bool. (Made by gen/bun.py.) -/
namespace Go.Proofs.YtlecbblmaadpiaaGreatDoor
open Go.RowKit
end Go.Proofs.YtlecbblmaadpiaaGreatDoor
/- What the laws of layer 6 share: loads of whole bundles under a guard; Encode that refuses. (Made by gen/bun.py.) -/
namespace Go.Proofs.YtlecbblmaadpiaaGreatDoor
open Go.RowKit
theorem wpList_ld18G {w : World} {ops : Array Oper} {rest : List Oper} {o : Oper} {a : Act} {Q : Exit → Act → World → Prop} (hw : Region.wanted o (yielded ops a.tmps) = true) (x : Operand) (ho : o.op = .load 73 x)
    (g : Nat) (hx : a.eval x = .pointer (some ⟨g, 0, none⟩)) (t : TypeId) (cs : Array Value) (hg : w.heap[g]? = some (.cells cs t (0, 0))) (hs : cs.size = 18) (h : wpList Tryz.prog ops Q rest (a.put o.dst (.agg cs)) w) : wpList Tryz.prog ops Q (o :: rest) a w := by
  refine wpList_step fun K hK => ?_
  rw [if_pos hw]
  unfold Oper.wp
  rw [exec_ld18 ho hx hg hs]
  exact hK _ _ h
end Go.Proofs.YtlecbblmaadpiaaGreatDoor
/- What Primary of layer 6 returns; BundleWrites of layer 6's statements, walked. (Made by gen/BunW6.py and gen/bun.py.) -/
namespace Go.Proofs.YtlecbblmaadpiaaGreatDoor
open Go.RowKit
theorem numZ_cauE (b : Bun) (h : cauU b ≠ 0) : numZ (cauU b) = cauU b := by
  unfold cauU at h ⊢
  split
  · rfl
  · rename_i h1
    rw [if_neg h1] at h
    split
    · rename_i h2
      rw [if_pos h2] at h
      exact absurd rfl h
    · rfl
set_option maxRecDepth 100000 in
set_option maxHeartbeats 8000000 in
theorem uprimary_any (S : Snt) (h : BH) (l : List Blk) (A : Option Addr) (n c B : Nat) (w : World) (hS : Wd S w) (hd : h.Bd) (hr : RdL w B A n l) (hB : B ≤ w.heap.size) (hc : n ≤ c) :
    Calls Tryz.prog 49 #[bunV h A n c] w fun e w' => Below w.heap.size w w' ∧ ∃ (A' : Option Addr) (n' c' : Nat), e = .returned (.tuple #[.slice A' n' c', .int .i64 (cauU (h.bun l))]) ∧ n' ≤ c' ∧ Rd w' w'.heap.size A' n' (if cauU (h.bun l) = 0 then primW (h.bun l) else []) := by
  have HB0 := Lib.hid ((Below.refl w.heap.size w).alloc (Nat.le_refl _) (.cells #[.int .u64 (h.flg : Int), .int .i64 h.crc, .int .i64 h.dsc, .string h.dnm, .int .u64 (h.dn : Int), .int .u64 (h.dv : Int), .int .i64 h.ssc, .string h.snm, .int .u64 (h.sn : Int), .int .u64 (h.sv : Int), .int .i64 h.rsc, .string h.rnm, .int .u64 (h.rn : Int), .int .u64 (h.rv : Int), .int .u64 (h.tim : Int), .int .u64 (h.seq : Int), .int .u64 (h.lif : Int), .slice A n c] 73))
  have HW0 : Hid (Below (w.heap.size + 1) (w.alloc (.cells #[.int .u64 (h.flg : Int), .int .i64 h.crc, .int .i64 h.dsc, .string h.dnm, .int .u64 (h.dn : Int), .int .u64 (h.dv : Int), .int .i64 h.ssc, .string h.snm, .int .u64 (h.sn : Int), .int .u64 (h.sv : Int), .int .i64 h.rsc, .string h.rnm, .int .u64 (h.rn : Int), .int .u64 (h.rv : Int), .int .u64 (h.tim : Int), .int .u64 (h.seq : Int), .int .u64 (h.lif : Int), .slice A n c] 73)) (w.alloc (.cells #[.int .u64 (h.flg : Int), .int .i64 h.crc, .int .i64 h.dsc, .string h.dnm, .int .u64 (h.dn : Int), .int .u64 (h.dv : Int), .int .i64 h.ssc, .string h.snm, .int .u64 (h.sn : Int), .int .u64 (h.sv : Int), .int .i64 h.rsc, .string h.rnm, .int .u64 (h.rn : Int), .int .u64 (h.rv : Int), .int .u64 (h.tim : Int), .int .u64 (h.seq : Int), .int .u64 (h.lif : Int), .slice A n c] 73))) := Below.refl _ _
  have HS0 : Hid ((w.alloc (.cells #[.int .u64 (h.flg : Int), .int .i64 h.crc, .int .i64 h.dsc, .string h.dnm, .int .u64 (h.dn : Int), .int .u64 (h.dv : Int), .int .i64 h.ssc, .string h.snm, .int .u64 (h.sn : Int), .int .u64 (h.sv : Int), .int .i64 h.rsc, .string h.rnm, .int .u64 (h.rn : Int), .int .u64 (h.rv : Int), .int .u64 (h.tim : Int), .int .u64 (h.seq : Int), .int .u64 (h.lif : Int), .slice A n c] 73)).heap.size = w.heap.size + 1) := by show _ = _; simp
  have HRW := Lib.hid (fun (W : World) (hb : Below (w.heap.size + 1) (w.alloc (.cells #[.int .u64 (h.flg : Int), .int .i64 h.crc, .int .i64 h.dsc, .string h.dnm, .int .u64 (h.dn : Int), .int .u64 (h.dv : Int), .int .i64 h.ssc, .string h.snm, .int .u64 (h.sn : Int), .int .u64 (h.sv : Int), .int .i64 h.rsc, .string h.rnm, .int .u64 (h.rn : Int), .int .u64 (h.rv : Int), .int .u64 (h.tim : Int), .int .u64 (h.seq : Int), .int .u64 (h.lif : Int), .slice A n c] 73)) W) => row_of_box (w := w) rfl hb)
  have HWd := Lib.hid (hS.alloc (.cells #[.int .u64 (h.flg : Int), .int .i64 h.crc, .int .i64 h.dsc, .string h.dnm, .int .u64 (h.dn : Int), .int .u64 (h.dv : Int), .int .i64 h.ssc, .string h.snm, .int .u64 (h.sn : Int), .int .u64 (h.sv : Int), .int .i64 h.rsc, .string h.rnm, .int .u64 (h.rn : Int), .int .u64 (h.rv : Int), .int .u64 (h.tim : Int), .int .u64 (h.seq : Int), .int .u64 (h.lif : Int), .slice A n c] 73))
  have C1 := Lib.hid (ucheck_any S h l A n c B (w.alloc (.cells #[.int .u64 (h.flg : Int), .int .i64 h.crc, .int .i64 h.dsc, .string h.dnm, .int .u64 (h.dn : Int), .int .u64 (h.dv : Int), .int .i64 h.ssc, .string h.snm, .int .u64 (h.sn : Int), .int .u64 (h.sv : Int), .int .i64 h.rsc, .string h.rnm, .int .u64 (h.rn : Int), .int .u64 (h.rv : Int), .int .u64 (h.tim : Int), .int .u64 (h.seq : Int), .int .u64 (h.lif : Int), .slice A n c] 73)) (hS.alloc _) hd (hr.below (HB0.out.mono hB)) (Nat.le_trans hB HB0.out.size) hc)
  have q1 := fun (W : World) (u : TypeId) (x : Value) => run_neq_iface_nil (P := Tryz.prog) (w := W) 95 (by kernel_rfl) u x
  have CN := Lib.hid unumber_any
  by_cases hz : cauU (h.bun l) = 0
  case neg =>
    have HE : Hid ((if cauU (h.bun l) = 0 then primW (h.bun l) else []) = ([] : List UInt8)) := if_neg hz
    rw [HE.out]
    have HNZ := Lib.hid (numZ_cauE _ hz)
    clear hr hB hd hc hS HE
    generalize cauU (h.bun l) = z at *
    unfold bunV at *
    go_enter Tryz.func49, Tryz.ntmps49
    go_wp2_with (first
      | (refine wpList_ld18 rfl (.tmp 1) rfl _ rfl _ _ (HRW.out _ HW0.out) rfl ?_)
      | fail)
    refine C1.out.mono ?_
    rintro e w1 ⟨hb, ⟨h0, -⟩ | ⟨-, s, rfl⟩⟩
    · exact absurd h0 hz
    have B1 := Lib.hid (HB0.out.trans (hb.mono HB0.out.size))
    clear hb hz
    have C2 := Lib.hid (CN.out z s w1)
    rw [HNZ.out] at C2
    unfold ufl at *
    go_wp2_with fail
    refine C2.out.mono ?_
    rintro e w2 ⟨rfl, hb⟩
    have B2 := Lib.hid (B1.out.trans (hb.mono B1.out.size))
    clear hb
    go_wp2_with fail
    go_ret2
    exact ⟨B2.out, _, _, _, rfl, Nat.le_refl _, Rd.nil_⟩
  rw [if_pos hz]
  have hwr : Wr (h.bun l) := (primOk_iff.1 (cauU_0.1 hz).2.1).1
  have CP : Hid (∀ W, Below (w.heap.size + 1) (w.alloc (.cells #[.int .u64 (h.flg : Int), .int .i64 h.crc, .int .i64 h.dsc, .string h.dnm, .int .u64 (h.dn : Int), .int .u64 (h.dv : Int), .int .i64 h.ssc, .string h.snm, .int .u64 (h.sn : Int), .int .u64 (h.sv : Int), .int .i64 h.rsc, .string h.rnm, .int .u64 (h.rn : Int), .int .u64 (h.rv : Int), .int .u64 (h.tim : Int), .int .u64 (h.seq : Int), .int .u64 (h.lif : Int), .slice A n c] 73)) W → Calls Tryz.prog 99 #[bunV h A n c] W (GivesO 5 (primW (h.bun l)) W)) := fun W hb => uwriteP_any S h l A n c W (HWd.out.below hb (Nat.le_of_eq HS0.out)) hd hwr
  generalize primW (h.bun l) = PW at *
  generalize cauU (h.bun l) = z at *
  subst hz
  clear hr hB hd hc hS hwr
  unfold bunV at *
  go_enter Tryz.func49, Tryz.ntmps49
  go_wp2_with (first
    | (refine wpList_ld18 rfl (.tmp 1) rfl _ rfl _ _ (HRW.out _ HW0.out) rfl ?_)
    | fail)
  refine C1.out.mono ?_
  rintro e w1 ⟨hb, ⟨-, rfl⟩ | ⟨h0, -⟩⟩
  case inr => exact absurd rfl h0
  have B1 := Lib.hid (Below.push HW0.out (Nat.le_of_eq HS0.out.symm) hb)
  have T1 := Lib.hid (HB0.out.trans (B1.out.mono (Nat.le_succ _)))
  clear hb
  go_wp2_with (first
    | (refine wpList_ld18 rfl (.tmp 1) rfl _ rfl _ _ (HRW.out _ B1.out) rfl ?_)
    | fail)
  refine (CP.out _ B1.out).mono ?_
  rintro e w2 ⟨v2, rfl, ho, hb⟩
  obtain ⟨A2, c2, rfl, hc2, -, hr2⟩ := ho.rd
  have HR2 := Lib.hid (And.intro hc2 hr2)
  have T2 := Lib.hid (T1.out.trans (hb.mono T1.out.size))
  clear hb ho hc2 hr2
  go_wp2_with fail
  go_ret2
  exact ⟨T2.out, _, _, _, rfl, HR2.out.1, HR2.out.2⟩
end Go.Proofs.YtlecbblmaadpiaaGreatDoor
/- The plain mathematics of layer 9: the bytes that a tag is made over, and that they tell what they are made of. No program's number stands here. -/
namespace Go.Proofs.YtlecbblmaadpiaaGreatDoor
open Go.RowKit
theorem wri_cut {x y : Itm} {m r : List UInt8} (fx : Fits x) (sx : Siz x) (fy : Fits y) (sy : Siz y) (h : wri x ++ m = wri y ++ r) : x = y ∧ m = r := by
  have h1 := decode_wr fx sx m
  have h2 := decode_wr fy sy r
  rw [h, h2] at h1
  have e : y = x := congrArg Prod.fst h1
  subst e
  exact ⟨rfl, List.append_cancel_left h⟩
theorem uint_fits (n : Nat) : Fits (.mk 0 n [] []) := ⟨by simp [right, rights, own], by simp [dep, deps], by simp [par, pars]⟩
theorem hd0_cut {a b : Nat} {m r : List UInt8} (ha : a < 18446744073709551616) (hb : b < 18446744073709551616) (h : hd 0 a ++ m = hd 0 b ++ r) : a = b ∧ m = r := by
  rw [← wri_u, ← wri_u] at h
  obtain ⟨e, h2⟩ := wri_cut (uint_fits a) ⟨ha, by simp, by simp, trivial⟩ (uint_fits b) ⟨hb, by simp, by simp, trivial⟩ h
  injection e with _ e2
  exact ⟨e2, h2⟩
theorem data_fits (d : List UInt8) : Fits (.mk 2 0 d []) := ⟨by simp [right, rights, own], by simp [dep, deps], by simp [par, pars]⟩
theorem hd2_cut {d e m r : List UInt8} (hd' : d.length < 18446744073709551616) (he : e.length < 18446744073709551616) (h : hd 2 d.length ++ (d ++ m) = hd 2 e.length ++ (e ++ r)) : d = e ∧ m = r := by
  rw [← List.append_assoc, ← List.append_assoc, ← wri_b, ← wri_b] at h
  obtain ⟨q, h2⟩ := wri_cut (data_fits d) ⟨by decide, hd', by simp, trivial⟩ (data_fits e) ⟨by decide, he, by simp, trivial⟩ h
  injection q with _ _ q3
  exact ⟨q3, h2⟩
theorem prim_cut {a b : Bun} {m r : List UInt8} (wa : Wr a) (ba : BdP a) (wb : Wr b) (bb : BdP b) (h : primW a ++ m = primW b ++ r) : primW a = primW b ∧ m = r := by
  have ea := wri_itmP a (sumP a) (sumP_len a)
  have eb := wri_itmP b (sumP b) (sumP_len b)
  have pa : primW a = wri (itmP a (sumP a)) := ea.symm
  have pb : primW b = wri (itmP b (sumP b)) := eb.symm
  rw [pa, pb] at h ⊢
  obtain ⟨e, h2⟩ := wri_cut (itmP_fits _ wa) (itmP_siz _ wa ba (by rw [sumP_len]; have := sumN_le a.crc; omega)) (itmP_fits _ wb) (itmP_siz _ wb bb (by rw [sumP_len]; have := sumN_le b.crc; omega)) h
  exact ⟨by rw [e], h2⟩
def iplB (p : List UInt8) (sc : Nat) (t : Option Blk) (kind num flags : Nat) : List UInt8 :=
  hd 0 sc ++ ((if sc % 2 = 1 ∧ t.isSome = true then p else []) ++ ((match t with | some x => if sc / 2 % 2 = 1 then hd 0 x.typ ++ (hd 0 x.num ++ hd 0 x.flg) else [] | none => []) ++
    ((if sc / 4 = 1 then hd 0 kind ++ (hd 0 num ++ hd 0 flags) else []) ++ (match t with | some x => hd 2 x.dat.length ++ x.dat | none => p))))
theorem ipl_tells {a b : Bun} {x y : Blk} {k n f k' n' f' : Nat} (wa : Wr a) (ba : BdP a) (wb : Wr b) (bb : BdP b) (hx : Bd x) (hy : Bd y) (hxd : x.dat.length < 18446744073709551616) (hyd : y.dat.length < 18446744073709551616)
    (hk : k < 18446744073709551616 ∧ n < 18446744073709551616 ∧ f < 18446744073709551616) (hk' : k' < 18446744073709551616 ∧ n' < 18446744073709551616 ∧ f' < 18446744073709551616)
    (h : iplB (primW a) 7 (some x) k n f = iplB (primW b) 7 (some y) k' n' f') : primW a = primW b ∧ x.typ = y.typ ∧ x.num = y.num ∧ x.flg = y.flg ∧ k = k' ∧ n = n' ∧ f = f' ∧ x.dat = y.dat := by
  unfold iplB at h
  simp only [Option.isSome_some, and_true, ↓reduceIte, Nat.reduceMod, Nat.reduceDiv, List.append_assoc] at h
  obtain ⟨-, h⟩ := hd0_cut (by decide) (by decide) h
  obtain ⟨e1, h⟩ := prim_cut wa ba wb bb h
  obtain ⟨e2, h⟩ := hd0_cut hx.1 hy.1 h
  obtain ⟨e3, h⟩ := hd0_cut hx.2.1 hy.2.1 h
  obtain ⟨e4, h⟩ := hd0_cut hx.2.2 hy.2.2 h
  obtain ⟨e5, h⟩ := hd0_cut hk.1 hk'.1 h
  obtain ⟨e6, h⟩ := hd0_cut hk.2.1 hk'.2.1 h
  obtain ⟨e7, h⟩ := hd0_cut hk.2.2 hk'.2.2 h
  obtain ⟨e8, -⟩ := hd2_cut (m := []) (r := []) hxd hyd (by simpa using h)
  exact ⟨e1, e2, e3, e4, e5, e6, e7, e8⟩
theorem plc_find (p : Blk → Bool) : ∀ (l : List Blk) (i : Nat), (plc p l i = -1 ∧ l.find? p = none) ∨ ∃ (k : Nat) (hk : k < l.length), plc p l i = ((i + k : Nat) : Int) ∧ l.find? p = some (l[k]'hk)
  | [], i => .inl ⟨rfl, rfl⟩
  | x :: r, i => by
    rw [plc, List.find?_cons]
    by_cases hx : p x = true
    · rw [if_pos hx, hx]
      exact .inr ⟨0, by simp, rfl, rfl⟩
    · rw [if_neg hx, Bool.not_eq_true] at *
      rw [hx]
      rcases plc_find p r (i + 1) with h | ⟨k, hk, h1, h2⟩
      · exact .inl h
      · exact .inr ⟨k + 1, by simpa using hk, by rw [h1]; congr 1; omega, by simpa using h2⟩
def iplU (b : Bun) (q : Nat) (sc : Int) (kind num flags : Nat) : List UInt8 × Int :=
  if cauU b ≠ 0 then ([], cauU b) else if sc < 0 ∨ 7 < sc then ([], 100) else if q = 0 then (iplB (primW b) sc.toNat none kind num flags, 0) else
    match b.blks.find? (pNum q) with
    | none => ([], 100)
    | some x => if x.typ = 11 then ([], 100) else (iplB (primW b) sc.toNat (some x) kind num flags, 0)
end Go.Proofs.YtlecbblmaadpiaaGreatDoor
/- What Find of layer 6's reference returns. (Made by gen/bun.py.) -/
namespace Go.Proofs.YtlecbblmaadpiaaGreatDoor
open Go.RowKit
set_option maxRecDepth 100000 in
set_option maxHeartbeats 4000000 in
theorem rfindU_any (h : BH) (l : List Blk) (A : Option Addr) (n c B q : Nat) (w : World) (hr : RdL w B A n l) (hB : B ≤ w.heap.size) :
    Calls Tryz.prog 61 #[bunV h A n c, .int .u64 (q : Int)] w fun e w' => e = .returned (.int .i64 (plc (pNum q) l 0)) ∧ Below w.heap.size w w' := by
  obtain ⟨R, hR⟩ : ∃ R, R = plc (pNum q) l 0 := ⟨_, rfl⟩
  rw [← hR]
  have HRR : Hid (plc (pNum q) (l.drop 0) 0 = R) := hR.symm
  have HB0 := Lib.hid ((Below.refl w.heap.size w).alloc (Nat.le_refl _) (.cells #[.int .u64 (h.flg : Int), .int .i64 h.crc, .int .i64 h.dsc, .string h.dnm, .int .u64 (h.dn : Int), .int .u64 (h.dv : Int), .int .i64 h.ssc, .string h.snm, .int .u64 (h.sn : Int), .int .u64 (h.sv : Int), .int .i64 h.rsc, .string h.rnm, .int .u64 (h.rn : Int), .int .u64 (h.rv : Int), .int .u64 (h.tim : Int), .int .u64 (h.seq : Int), .int .u64 (h.lif : Int), .slice A n c] 73))
  have x17 : (w.alloc (.cells #[.int .u64 (h.flg : Int), .int .i64 h.crc, .int .i64 h.dsc, .string h.dnm, .int .u64 (h.dn : Int), .int .u64 (h.dv : Int), .int .i64 h.ssc, .string h.snm, .int .u64 (h.sn : Int), .int .u64 (h.sv : Int), .int .i64 h.rsc, .string h.rnm, .int .u64 (h.rn : Int), .int .u64 (h.rv : Int), .int .u64 (h.tim : Int), .int .u64 (h.seq : Int), .int .u64 (h.lif : Int), .slice A n c] 73)).cell? ⟨w.heap.size, 17, none⟩ = some (.slice A n c) := cell_row (row_of_box (w := w) rfl (Below.refl _ _)) 17 rfl
  have HR := Lib.hid (hr.below (HB0.out.mono hB))
  have hn47 := hr.2.2
  clear hr hB hR
  unfold bunV
  go_enter Tryz.func61, Tryz.ntmps61
  go_wp2_with fail
  generalize w.alloc (.cells #[.int .u64 (h.flg : Int), .int .i64 h.crc, .int .i64 h.dsc, .string h.dnm, .int .u64 (h.dn : Int), .int .u64 (h.dv : Int), .int .i64 h.ssc, .string h.snm, .int .u64 (h.sn : Int), .int .u64 (h.sv : Int), .int .i64 h.rsc, .string h.rnm, .int .u64 (h.rn : Int), .int .u64 (h.rv : Int), .int .u64 (h.tim : Int), .int .u64 (h.seq : Int), .int .u64 (h.lif : Int), .slice A n c] 73) = W0 at *
  go_loop [5] (fun v => ∃ i : Nat, i ≤ n ∧ v = .int .i64 (i : Int) ∧ Hid (plc (pNum q) (l.drop i) i = R)) (fun v => n - (intOf v).toNat)
  case atStart => exact ⟨0, Nat.zero_le _, rfl, HRR⟩
  case round =>
    obtain ⟨i, hi, rfl, HP⟩ := hrel
    by_cases hlt : i < n
    · have hii : decide ((i : Int) < (n : Int)) = true := decide_eq_true (by omega)
      have hi1 : (i : Int) < (n : Int) := by omega
      have hil : i < l.length := by rw [HR.out.1]; exact hlt
      have hp := plc_at (pNum q) l i hil
      rw [HP.out] at hp
      obtain ⟨b, o, rfl, hbB, hks⟩ := HR.out.2.1 (by omega)
      obtain ⟨A1, nd, cd, hk⟩ := hks.get i hil
      have g1 := hk.k1
      generalize l[i] = x at *
      clear hk hks hbB
      by_cases hq : x.num = q
      · have hz : R = (i : Int) := by rw [hp, if_pos (by unfold pNum; simp [hq])]
        subst hz
        subst hq
        clear hp
        go_wp2_with fail
        go_ret
        exact ⟨rfl, HB0.out⟩
      · have hqq : ((x.num : Int) == (q : Int)) = false := by rw [beq_eq_false_iff_ne]; omega
        have HP2 : Hid (plc (pNum q) (l.drop (i + 1)) (i + 1) = R) := by show _ = _; rw [hp, if_neg (by unfold pNum; simp [hq])]
        clear hp
        go_wp2_with fail
        go_round
        case rel => exact ⟨i + 1, by omega, by go_num, HP2⟩
        case measure => simp [intOf]; omega
    · obtain rfl : i = n := by omega
      have hii : decide ((i : Int) < (i : Int)) = false := decide_eq_false (by omega)
      have hz : R = -1 := by
        rw [← HP.out, List.drop_of_length_le (by rw [HR.out.1]; exact Nat.le_refl _)]
        rfl
      subst hz
      go_wp2_with fail
      go_ret
      exact ⟨rfl, HB0.out⟩
end Go.Proofs.YtlecbblmaadpiaaGreatDoor
/- What a put block leaves of layer 9's plaintexts. -/
namespace Go.Proofs.YtlecbblmaadpiaaGreatDoor
open Go.RowKit
theorem find_putB (l : List Blk) (x : Blk) (q : Nat) (h : x.num ≠ q) : (putB l x).find? (pNum q) = l.find? (pNum q) := by
  have hx : pNum q x = false := by unfold pNum; simpa using h
  unfold putB
  rw [List.find?_append, List.find?_cons, hx, ← List.find?_append, List.take_append_drop]
theorem iplU_put (h : BH) (l : List Blk) (x : Blk) (q : Nat) (sc : Int) (k n f : Nat) (hq : x.num ≠ q) (h1 : cauU (h.bun l) = 0) (h2 : cauU (h.bun (putB l x)) = 0) : iplU (h.bun (putB l x)) q sc k n f = iplU (h.bun l) q sc k n f := by
  have e1 : primW (h.bun (putB l x)) = primW (h.bun l) := rfl
  have e2 : (h.bun (putB l x)).blks = putB l x := rfl
  have e3 : (h.bun l).blks = l := rfl
  unfold iplU
  rw [e1, e2, e3, h1, h2, find_putB l x q hq]
end Go.Proofs.YtlecbblmaadpiaaGreatDoor
/- What Drop of layer 6's reference returns. (Made by gen/RfX.py, gen/bun.py.) -/
namespace Go.Proofs.YtlecbblmaadpiaaGreatDoor
open Go.RowKit
theorem kcutR (A : Option Addr) (n c k : Nat) (hk : k ≤ n) (hc : n ≤ c) (h0 : 0 < c) (W : World) : (Instr.slice 71 (.slice A n c) none (some (.int .i64 (k : Int))) none).run Tryz.prog W = .ok (.slice A k c) W := by
  have hz := size_blk
  have ht := Tryz.underlying71
  have hkc : k ≤ c := by omega
  have hne : ¬ c = 0 := by omega
  go_simp
end Go.Proofs.YtlecbblmaadpiaaGreatDoor
