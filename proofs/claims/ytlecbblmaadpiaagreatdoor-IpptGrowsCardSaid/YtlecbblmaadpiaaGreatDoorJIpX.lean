/- What readBlocks of layer 6 returns. (Made by gen/bun.py.) -/
import Derived.Test.YtlecbblmaadpiaaGreatDoorJBlkE
import Derived.Test.YtlecbblmaadpiaaGreatDoorJBlkW2
import Derived.Test.YtlecbblmaadpiaaGreatDoorJBunD
import Derived.Test.YtlecbblmaadpiaaGreatDoorJBunF
import Derived.Test.YtlecbblmaadpiaaGreatDoorJBunS
import Derived.Test.YtlecbblmaadpiaaGreatDoorJEidI2
import Derived.Test.YtlecbblmaadpiaaGreatDoorJKDecL
import Derived.Test.YtlecbblmaadpiaaGreatDoorJKRd
import Derived.Test.YtlecbblmaadpiaaGreatDoorJRfC
import Derived.Test.YtlecbblmaadpiaaGreatDoorJRfF
import Derived.Test.YtlecbblmaadpiaaGreatDoorJRfI
import Derived.Test.YtlecbblmaadpiaaGreatDoorJRfK
import Derived.Deep.AppendLies
import Derived.WalkMore
import Derived.OwnWalk
import Derived.Deep.RegionHeld3
import Derived.StillTailTactics
import Derived.BigQuiet
import Derived.BigRegion
import Derived.Deep.QuietTactic
namespace Go.Proofs.YtlecbblmaadpiaaGreatDoor
open Go.RowKit
theorem blkW_first0 (b : Blk) (m r : List UInt8) : blkW b ++ m ≠ 0xff :: r := by
  unfold blkW bodyB
  by_cases h : b.crc = 0
  · rw [if_pos h]; intro e; simp [hd, hlow] at e
  · rw [if_neg h]; intro e; simp [hd, hlow] at e
/-! ### Rows of blocks of one's own -/
structure PK where
  x : Blk
  A : Option Addr
  nd : Nat
  cd : Nat
def fiveK (p : PK) : List Value := [.int .u64 (p.x.typ : Int), .int .u64 (p.x.num : Int), .int .u64 (p.x.flg : Int), .int .i64 p.x.crc, .slice p.A p.nd p.cd]
def rowK : List PK → List Value
  | [] => []
  | p :: r => fiveK p ++ rowK r
theorem rowK_app : ∀ a b : List PK, rowK (a ++ b) = rowK a ++ rowK b
  | [], b => rfl
  | p :: r, b => by rw [List.cons_append, rowK, rowK, rowK_app r b, List.append_assoc]
theorem rowK_len : ∀ a : List PK, (rowK a).length = a.length * 5
  | [] => rfl
  | p :: r => by rw [rowK, List.length_append, rowK_len r, List.length_cons]; simp [fiveK]; omega
theorem rowK_one : ∀ (a : List PK), ∀ v ∈ rowK a, v.oneCell' = true
  | [], v, h => by cases h
  | p :: r, v, h => by
    rw [rowK, List.mem_append] at h
    rcases h with h | h
    · simp only [fiveK, List.mem_cons, List.not_mem_nil, or_false] at h
      rcases h with rfl | rfl | rfl | rfl | rfl <;> rfl
    · exact rowK_one r v h
structure OkK (lo : Nat) (w : World) (v : Value) (p : PK) : Prop where
  bd : Bd p.x
  le : p.nd ≤ p.cd ∧ p.nd ≤ 140737488355328
  rd : Rd w w.heap.size p.A p.nd p.x.dat
  far : 0 < p.nd → ∀ b o, p.A = some ⟨b, o, none⟩ → v.ownBlock ≠ some b
  new : 0 < p.nd → ∀ b o, p.A = some ⟨b, o, none⟩ → lo ≤ b
theorem OkK.go {lo : Nat} {w w' : World} {v v' : Value} {p : PK} (h : OkK lo w v p) (hsz : w.heap.size ≤ w'.heap.size) (hb : ∀ j, j < w.heap.size → v.ownBlock ≠ some j → w'.heap[j]? = w.heap[j]?)
    (hv : ∀ j, j < w.heap.size → v.ownBlock ≠ some j → v'.ownBlock ≠ some j) : OkK lo w' v' p :=
  ⟨h.bd, h.le, ⟨h.rd.1, fun hn => by
    obtain ⟨b, o, e, hlt, hc⟩ := h.rd.2 hn
    exact ⟨b, o, e, Nat.lt_of_lt_of_le hlt hsz, fun i hi => (World.cell?_of_block (a := ⟨b, o + i, none⟩) (hb b hlt (h.far hn b o e))).trans (hc i hi)⟩⟩, fun hn b o e => by
    obtain ⟨b', o', e', hlt, -⟩ := h.rd.2 hn
    rw [e] at e'
    cases e'
    exact hv b hlt (h.far hn b o e), h.new⟩
theorem OkK.below {lo : Nat} {w w' : World} {v : Value} {p : PK} (h : OkK lo w v p) (hb : Below w.heap.size w w') : OkK lo w' v p :=
  h.go hb.size (fun j hj _ => hb.block j hj) (fun _ _ h => h)
theorem Rd.sub_ {w w' : World} {B B' n : Nat} {A : Option Addr} {l : List UInt8} (h : Rd w B A n l) (hs : ∀ p u, w.cell? p = some u → w'.cell? p = some u) (hB : B ≤ B') : Rd w' B' A n l :=
  ⟨h.1, fun hn => by obtain ⟨b, o, e, hb, hc⟩ := h.2 hn; exact ⟨b, o, e, Nat.lt_of_lt_of_le hb hB, fun i hi => hs _ _ (hc i hi)⟩⟩
theorem RdKs.sub_ {w w' : World} {B B' b : Nat} (hs : ∀ p u, w.cell? p = some u → w'.cell? p = some u) (hB : B ≤ B') : ∀ {l : List Blk} {o : Nat}, RdKs w B b o l → RdKs w' B' b o l
  | [], _, _ => trivial
  | _ :: _, _, ⟨⟨A, nd, cd, h⟩, hr⟩ => ⟨⟨A, nd, cd, ⟨hs _ _ h.k0, hs _ _ h.k1, hs _ _ h.k2, hs _ _ h.k3, hs _ _ h.k4, h.bd, h.le, h.rd.sub_ hs hB⟩⟩, RdKs.sub_ hs hB hr⟩
theorem RdL.sub_ {w w' : World} {B B' n : Nat} {A : Option Addr} {l : List Blk} (h : RdL w B A n l) (hs : ∀ p u, w.cell? p = some u → w'.cell? p = some u) (hB : B ≤ B') : RdL w' B' A n l :=
  ⟨h.1, fun hn => by obtain ⟨b, o, e, h1, h2⟩ := h.2.1 hn; exact ⟨b, o, e, Nat.lt_of_lt_of_le h1 hB, RdKs.sub_ hs hB h2⟩, h.2.2⟩
theorem RdL.maskgo {lo lo' B n : Nat} {w w' : World} {A : Option Addr} {l : List Blk} (h : RdL (mask (lows lo) w) B A n l) (hl : lo' ≤ lo) (hw : ∀ p : Addr, lo ≤ p.block → ∀ u, w.cell? p = some u → w'.cell? p = some u) {B' : Nat} (hB : B ≤ B') : RdL (mask (lows lo') w') B' A n l :=
  h.sub_ (fun p u hc => by
    have h1 := lows_f.1 (mask_out hc)
    exact (mask_cell (lows_f.2 (Nat.le_trans hl h1))).trans (hw p h1 u (mask_sub hc))) hB
theorem RdL.unmask_ {S : Nat → Bool} {w : World} {B n : Nat} {A : Option Addr} {l : List Blk} (h : RdL (mask S w) B A n l) : RdL w B A n l := h.sub_ (fun _ _ hc => mask_sub hc) (Nat.le_refl _)
theorem blkWs_uniq : ∀ {xs ys : List Blk} {r t : List UInt8}, (∀ x ∈ xs, blkOk x = true ∧ Bd x) → (∀ y ∈ ys, blkOk y = true ∧ Bd y) → blkWs xs ++ 0xff :: r = blkWs ys ++ 0xff :: t → xs = ys ∧ r = t
  | [], [], _, _, _, _, h => by
    simp only [blkWs, List.nil_append, List.cons.injEq, true_and] at h
    exact ⟨rfl, h⟩
  | [], y :: ys, r, t, _, _, h => by
    rw [blkWs, blkWs, List.nil_append, List.append_assoc] at h
    exact absurd h.symm (blkW_first0 y _ _)
  | x :: xs, [], r, t, _, _, h => by
    rw [blkWs, blkWs, List.nil_append, List.append_assoc] at h
    exact absurd h (blkW_first0 x _ _)
  | x :: xs, y :: ys, r, t, hx, hy, h => by
    rw [blkWs, blkWs, List.append_assoc, List.append_assoc] at h
    have h1 := decB_blk x (blkWs xs ++ 0xff :: r) (hx x (by simp)).1 (hx x (by simp)).2
    have h2 := decB_blk y (blkWs ys ++ 0xff :: t) (hy y (by simp)).1 (hy y (by simp)).2
    rw [h, h2] at h1
    simp only [Prod.mk.injEq] at h1
    obtain ⟨rfl, -⟩ := h1
    have h3 := List.append_cancel_left h
    obtain ⟨rfl, rfl⟩ := blkWs_uniq (fun q hq => hx q (by simp [hq])) (fun q hq => hy q (by simp [hq])) h3
    exact ⟨rfl, rfl⟩
theorem rowK_read {lo : Nat} {w : World} {b : Nat} {v : Value} (hb : lo ≤ b) : ∀ (ps : List PK) (o : Nat), (∀ j u, (rowK ps)[j]? = some u → w.cell? ⟨b, o + j, none⟩ = some u) → (∀ p ∈ ps, OkK lo w v p) → RdKs (mask (lows lo) w) w.heap.size b o (ps.map (·.x))
  | [], _, _, _ => trivial
  | p :: r, o, hc, ho => by
    have hp := ho p (by simp)
    have h0 : ∀ j u, (fiveK p)[j]? = some u → (mask (lows lo) w).cell? ⟨b, o + j, none⟩ = some u := fun j u hj => (mask_cell (lows_f.2 hb)).trans <| hc j u (by
      rw [rowK, List.getElem?_append_left]
      · exact hj
      · rcases Nat.lt_or_ge j (fiveK p).length with h | h
        · exact h
        · rw [List.getElem?_eq_none h] at hj; cases hj)
    refine ⟨⟨p.A, p.nd, p.cd, ⟨h0 0 _ rfl, h0 1 _ rfl, h0 2 _ rfl, h0 3 _ rfl, h0 4 _ rfl, hp.bd, hp.le, hp.rd.mask_any hp.new⟩⟩, rowK_read hb r (o + 5) (fun j u hj => ?_) (fun q hq => ho q (by simp [hq]))⟩
    rw [show o + 5 + j = o + (5 + j) by omega]
    refine hc (5 + j) u ?_
    rw [rowK, List.getElem?_append_right (by simp [fiveK])]
    simpa [fiveK] using hj
structure BkSt (w wr : World) (v : Value) (ps : List PK) : Prop where
  own : wr.ownsRow w.heap.size 48 5 v ps.length (rowK ps)
  ok : ∀ p ∈ ps, OkK w.heap.size wr v p
  bel : Below w.heap.size w wr
theorem BkSt.start (w : World) : BkSt w w (.slice none 0 0) [] := ⟨World.ownsRow_nil _ _ _ _, fun _ h => (by cases h), Below.refl _ _⟩
theorem BkSt.form {w wr : World} {v : Value} {ps : List PK} (h : BkSt w wr v ps) : ∃ A cp, v = .slice A ps.length cp ∧ ps.length ≤ cp := by
  rcases h.own.2 with ⟨hv, h0⟩ | ⟨q, cap, cur, hv, -, -, hnc, -⟩
  · exact ⟨none, 0, by rw [hv, h0], by omega⟩
  · exact ⟨_, _, hv, hnc⟩
theorem BkSt.on {w wr w1 : World} {v : Value} {ps : List PK} (h : BkSt w wr v ps) (hb : Below wr.heap.size wr w1) : BkSt w w1 v ps :=
  ⟨ownsRow_below h.own hb, fun p hp => (h.ok p hp).below hb, h.bel.trans (hb.mono h.bel.size)⟩
theorem BkSt.push {w wr w3 : World} {v : Value} {ps : List PK} (h : BkSt w wr v ps) {p : PK} (hp : OkK w.heap.size wr v p) {g cap m : Nat} (hm : ps.length = m) (hown : w3.ownsRow w.heap.size 48 5 (.slice (some ⟨g, 0, none⟩) (m + 1) cap) (m + 1) (rowK ps ++ fiveK p))
    (hgr : wr.grownBy w3 v.ownBlock) (hat : v.ownBlock = some g ∨ g = wr.heap.size) : BkSt w w3 (.slice (some ⟨g, 0, none⟩) (m + 1) cap) (ps ++ [p]) := by
  subst hm
  have hb : ∀ j, j < wr.heap.size → v.ownBlock ≠ some j → w3.heap[j]? = wr.heap[j]? := fun j hj hne => hgr.block j hj (fun e => hne e.symm)
  have hv : ∀ j, j < wr.heap.size → v.ownBlock ≠ some j → (Value.slice (some ⟨g, 0, none⟩) (ps.length + 1) cap).ownBlock ≠ some j := fun j hj hne e => by
    injection e with e
    have e' : g = j := e
    rcases hat with h2 | h2
    · exact hne (by rw [h2, e'])
    · omega
  refine ⟨?_, fun q hq => ?_, ?_⟩
  · rw [List.length_append, List.length_singleton, rowK_app, show rowK [p] = fiveK p by simp [rowK]]
    exact hown
  · rcases List.mem_append.1 hq with hq | hq
    · exact (h.ok q hq).go hgr.size hb hv
    · rw [List.mem_singleton] at hq
      subst hq
      exact hp.go hgr.size hb hv
  · refine ⟨hgr.os.trans h.bel.os, hgr.tape.trans h.bel.tape, hgr.output.trans h.bel.output, Nat.le_trans h.bel.size hgr.size, fun j hj => ?_⟩
    rw [hb j (Nat.lt_of_lt_of_le hj h.bel.size) (fun e => by have := (World.ownsRow.lt h.own j e).1; omega)]
    exact h.bel.block j hj
theorem BkSt.read {w wr : World} {A : Option Addr} {cp : Nat} {ps : List PK} (h : BkSt w wr (.slice A ps.length cp) ps) (hn : ps.length ≤ 140737488355328) : RdL (mask (lows w.heap.size) wr) wr.heap.size A ps.length (ps.map (·.x)) := by
  refine ⟨by simp, fun h0 => ?_, hn⟩
  rcases h.own.2 with ⟨hv, h1⟩ | ⟨q, cap, cur, hv, -⟩
  · omega
  · injection hv with hv _ _
    subst hv
    have hlt := World.ownsRow.lt h.own q rfl
    refine ⟨q, 0, rfl, hlt.2, rowK_read hlt.1 ps 0 (fun j u hj => ?_) h.ok⟩
    have hjl : j < ps.length * 5 := by
      rw [← rowK_len]
      rcases Nat.lt_or_ge j (rowK ps).length with h | h
      · exact h
      · rw [List.getElem?_eq_none h] at hj; cases hj
    rw [Nat.zero_add, World.ownsRow.cellAt h.own j hjl]
    exact hj
/-! ### Which blocks bytes are -/
theorem blkW_first (b : Blk) (m r : List UInt8) : blkW b ++ m ≠ 0xff :: r := blkW_first0 b m r
def okBs (ys : List Blk) : Prop := ∀ y ∈ ys, blkOk y = true ∧ Bd y
def NoP (m : List UInt8) (k : Nat) : Prop := ∀ (ys : List Blk) (rest : List UInt8), okBs ys → ys.length ≤ k → m ≠ blkWs ys ++ 0xff :: rest
theorem NoP.step {m : List UInt8} {x : Blk} {k : Nat} (hd : decB m = (x, ((blkW x).length : Int), 0)) (hx : m = blkW x ++ m.drop (blkW x).length) (h : NoP (m.drop (blkW x).length) k) : NoP m (k + 1) := by
  intro ys rest hy hk e
  match ys, hy, hk, e with
  | [], _, _, e => exact blkW_first x _ rest (hx.symm.trans e)
  | y :: ys, hy, hk, e =>
    rw [blkWs, List.append_assoc] at e
    have hyy := hy y (by simp)
    have h2 := decB_blk y (blkWs ys ++ 0xff :: rest) hyy.1 hyy.2
    rw [← e, hd] at h2
    simp only [Prod.mk.injEq, and_true] at h2
    obtain ⟨rfl, -⟩ := h2
    refine h ys rest (fun q hq => hy q (by simp [hq])) (by simpa using hk) ?_
    rw [e, List.drop_left]
theorem NoP.none {m : List UInt8} {k : Nat} (h1 : ∀ rest, m ≠ 0xff :: rest) (h2 : ∀ y N, decB m ≠ (y, N, 0)) : NoP m k := by
  intro ys rest hy hk e
  match ys, hy, e with
  | [], _, e => exact h1 rest e
  | y :: ys, hy, e =>
    rw [blkWs, List.append_assoc] at e
    have hyy := hy y (by simp)
    have h3 := decB_blk y (blkWs ys ++ 0xff :: rest) hyy.1 hyy.2
    rw [← e] at h3
    exact h2 _ _ h3
theorem NoP.zero {m : List UInt8} (h1 : ∀ rest, m ≠ 0xff :: rest) : NoP m 0 := by
  intro ys rest hy hk e
  have : ys = [] := List.eq_nil_of_length_eq_zero (by omega)
  subst this
  exact h1 rest e
end Go.Proofs.YtlecbblmaadpiaaGreatDoor
/- What readBlocks of layer 6 returns: the walk. (Made by gen/bun.py.) -/
namespace Go.Proofs.YtlecbblmaadpiaaGreatDoor
open Go.RowKit
theorem info_blk : (Tryz.prog.info? 48).map (fun i => (i.zero, i.size, i.bytes)) = some (some (.agg #[.int .u64 0, .int .u64 0, .int .u64 0, .int .i64 0, .slice none 0 0]), 5, 56) := by kernel_rfl
end Go.Proofs.YtlecbblmaadpiaaGreatDoor
/- What slices.Clone over blocks and copied of layer 6 return. (Made by gen/bun.py.) -/
namespace Go.Proofs.YtlecbblmaadpiaaGreatDoor
open Go.RowKit
def SrcK (w : World) (B : Nat) (p : PK) : Prop := Bd p.x ∧ (p.nd ≤ p.cd ∧ p.nd ≤ 140737488355328) ∧ Rd w B p.A p.nd p.x.dat
theorem RdKs.pks {w : World} {B b : Nat} : ∀ {l : List Blk} {o : Nat}, RdKs w B b o l → ∃ ps : List PK, ps.map (·.x) = l ∧ (∀ j u, (rowK ps)[j]? = some u → w.cell? ⟨b, o + j, none⟩ = some u) ∧ ∀ p ∈ ps, SrcK w B p
  | [], _, _ => ⟨[], rfl, fun j u hj => by simp [rowK] at hj, fun _ h => by cases h⟩
  | x :: r, o, ⟨⟨A, nd, cd, hk⟩, hr⟩ => by
    obtain ⟨ps, h1, h2, h3⟩ := RdKs.pks hr
    refine ⟨⟨x, A, nd, cd⟩ :: ps, by rw [List.map_cons, h1], fun j u hj => ?_, fun p hp => ?_⟩
    · rw [rowK] at hj
      match j, hj with
      | 0, hj => cases hj; exact hk.k0
      | 1, hj => cases hj; exact hk.k1
      | 2, hj => cases hj; exact hk.k2
      | 3, hj => cases hj; exact hk.k3
      | 4, hj => cases hj; exact hk.k4
      | j + 5, hj =>
        rw [List.getElem?_append_right (by simp [fiveK])] at hj
        have := h2 j u (by simpa [fiveK] using hj)
        rw [show o + (j + 5) = o + 5 + j by omega]
        exact this
    · rcases List.mem_cons.1 hp with rfl | hp
      · exact ⟨hk.bd, hk.le, hk.rd⟩
      · exact h3 p hp
theorem rowK_set : ∀ (qs : List PK) (i : Nat) (hi : i < qs.length) (A : Option Addr) (c : Nat), rowK (qs.set i ⟨(qs[i]'hi).x, A, (qs[i]'hi).nd, c⟩) = (rowK qs).set (i * 5 + 4) (.slice A (qs[i]'hi).nd c)
  | p :: r, 0, _, A, c => by simp [rowK, fiveK]
  | p :: r, i + 1, hi, A, c => by
    have ih := rowK_set r i (by simpa using hi) A c
    simp only [List.set_cons_succ, List.getElem_cons_succ, rowK]
    rw [ih, List.set_append_right _ _ (by simp [fiveK]; omega)]
    congr 2
    simp [fiveK]
    omega
end Go.Proofs.YtlecbblmaadpiaaGreatDoor
/- What compare of layer 6 returns. -/
namespace Go.Proofs.YtlecbblmaadpiaaGreatDoor
open Go.RowKit
end Go.Proofs.YtlecbblmaadpiaaGreatDoor
/- What taken of layer 6 returns. (Made by gen/BunH.py, gen/bun.py.) -/
namespace Go.Proofs.YtlecbblmaadpiaaGreatDoor
open Go.RowKit
theorem itmP_list (b : Bun) (s : List UInt8) : (itmP b s).list = partsP b ++ if b.crc = 0 then [] else [.mk 2 0 s []] := rfl
theorem itmP_nine {x0 x1 x2 x3 x4 x5 x6 x7 : Itm} {rest : List Itm} {b : Bun} {s : List UInt8} (h : x0 :: x1 :: x2 :: x3 :: x4 :: x5 :: x6 :: x7 :: rest = (itmP b s).list) :
    x1 = .mk 0 b.flg [] [] ∧ x2 = .mk 0 b.crc.toNat [] [] ∧ x3 = itemE b.dst ∧ x4 = itemE b.src ∧ x5 = itemE b.rep ∧ x6 = .mk 4 0 [] [.mk 0 b.tim [] [], .mk 0 b.seq [] []] ∧ x7 = .mk 0 b.lif [] [] := by
  rw [itmP_list] at h
  unfold partsP at h
  simp only [List.cons_append, List.cons.injEq] at h
  exact ⟨h.2.1, h.2.2.1, h.2.2.2.1, h.2.2.2.2.1, h.2.2.2.2.2.1, h.2.2.2.2.2.2.1, h.2.2.2.2.2.2.2.1⟩
end Go.Proofs.YtlecbblmaadpiaaGreatDoor
/- What checkVersion of layer 6 returns. (Made by gen/bun.py.) -/
namespace Go.Proofs.YtlecbblmaadpiaaGreatDoor
open Go.RowKit
end Go.Proofs.YtlecbblmaadpiaaGreatDoor
/- What readPrimary of layer 6 returns. (Made by gen/bun.py.) -/
namespace Go.Proofs.YtlecbblmaadpiaaGreatDoor
open Go.RowKit
end Go.Proofs.YtlecbblmaadpiaaGreatDoor
/- What read and Decode of layer 6 return. (Made by gen/bun.py.) -/
namespace Go.Proofs.YtlecbblmaadpiaaGreatDoor
open Go.RowKit
def IsBun (l : List UInt8) (b : Bun) : Prop := cauU b = 0 ∧ BdP b ∧ okBs b.blks ∧ l = bunW b ∧ l.length ≤ 4096
theorem IsBun.prim {l : List UInt8} {b : Bun} (h : IsBun (0x9f :: l) b) : PrimAt l b ∧ l.drop (primW b).length = blkWs b.blks ++ [0xff] := by
  obtain ⟨h1, h2, -, h3, -⟩ := h
  unfold bunW at h3
  injection h3 with _ h3
  exact ⟨⟨(primOk_iff.1 (cauU_0.1 h1).2.1).1, h2, _, h3⟩, by rw [h3, List.drop_left]⟩
theorem PrimAt.uniq {l : List UInt8} {a b : Bun} (ha : PrimAt l a) (hb : PrimAt l b) : { a with blks := [] } = { b with blks := [] } := by
  have h := ha.dec.symm.trans hb.dec
  simp only [Prod.mk.injEq, and_true] at h
  have hl := congrArg Itm.list h.1
  obtain ⟨h1, h2, h3, h4, h5, h6, h7⟩ := itmP_nine (x0 := .mk 0 7 [] []) (x1 := .mk 0 a.flg [] []) (x2 := .mk 0 a.crc.toNat [] []) (x3 := itemE a.dst) (x4 := itemE a.src) (x5 := itemE a.rep) (x6 := .mk 4 0 [] [.mk 0 a.tim [] [], .mk 0 a.seq [] []]) (x7 := .mk 0 a.lif [] []) (rest := if a.crc = 0 then [] else [.mk 2 0 (sumP a) []]) (b := b) (s := sumP b) (by rw [← hl]; rfl)
  have i1 := item_inj ha.1.2.1 hb.1.2.1 h3
  have i2 := item_inj ha.1.2.2.1 hb.1.2.2.1 h4
  have i3 := item_inj ha.1.2.2.2 hb.1.2.2.2 h5
  injection h1 with _ h1
  injection h2 with _ h2
  injection h7 with _ h7
  injection h6 with _ _ _ h6
  simp only [List.cons.injEq, Itm.mk.injEq, and_true, true_and] at h6
  have hc : a.crc = b.crc := by have := ha.1.1; have := hb.1.1; omega
  obtain ⟨af, ac, ad, as_, ar, at_, aq, al, ak⟩ := a
  obtain ⟨bf, bc, bd, bs, br, bt, bq, bl, bk⟩ := b
  simp only at h1 hc i1 i2 i3 h6 h7
  obtain ⟨h6, h8⟩ := h6
  subst h1 hc i1 i2 i3 h7 h6 h8
  rfl
theorem blksOk_len {l : List Blk} (h : blksOk l = true) : 1 ≤ l.length ∧ l.length ≤ 16 := by
  unfold blksOk at h
  rw [Bool.and_eq_true, decide_eq_true_eq] at h
  exact h.1
end Go.Proofs.YtlecbblmaadpiaaGreatDoor
/- What Encode of layer 5 return. -/
namespace Go.Proofs.YtlecbblmaadpiaaGreatDoor
open Go.RowKit
end Go.Proofs.YtlecbblmaadpiaaGreatDoor
/- What write and Encode of layer 6 return. (Made by gen/bun.py.) -/
namespace Go.Proofs.YtlecbblmaadpiaaGreatDoor
open Go.RowKit
end Go.Proofs.YtlecbblmaadpiaaGreatDoor
/- What Find, Payload and Key of layer 6 return. (Made by gen/bun.py.) -/
namespace Go.Proofs.YtlecbblmaadpiaaGreatDoor
open Go.RowKit
open Go.Lib (decDigits)
set_option maxRecDepth 100000 in
set_option maxHeartbeats 4000000 in
theorem ufind_any (h : BH) (l : List Blk) (A : Option Addr) (n c B q : Nat) (w : World) (hr : RdL w B A n l) (hB : B ≤ w.heap.size) :
    Calls Tryz.prog 95 #[bunV h A n c, .int .u64 (q : Int)] w fun e w' => e = .returned (.int .i64 (plc (pNum q) l 0)) ∧ Below w.heap.size w w' := by
  have HB0 := Lib.hid ((Below.refl w.heap.size w).alloc (Nat.le_refl _) (.cells #[.int .u64 (h.flg : Int), .int .i64 h.crc, .int .i64 h.dsc, .string h.dnm, .int .u64 (h.dn : Int), .int .u64 (h.dv : Int), .int .i64 h.ssc, .string h.snm, .int .u64 (h.sn : Int), .int .u64 (h.sv : Int), .int .i64 h.rsc, .string h.rnm, .int .u64 (h.rn : Int), .int .u64 (h.rv : Int), .int .u64 (h.tim : Int), .int .u64 (h.seq : Int), .int .u64 (h.lif : Int), .slice A n c] 73))
  have C1 := Lib.hid (place_any A n c B q l (w.alloc (.cells #[.int .u64 (h.flg : Int), .int .i64 h.crc, .int .i64 h.dsc, .string h.dnm, .int .u64 (h.dn : Int), .int .u64 (h.dv : Int), .int .i64 h.ssc, .string h.snm, .int .u64 (h.sn : Int), .int .u64 (h.sv : Int), .int .i64 h.rsc, .string h.rnm, .int .u64 (h.rn : Int), .int .u64 (h.rv : Int), .int .u64 (h.tim : Int), .int .u64 (h.seq : Int), .int .u64 (h.lif : Int), .slice A n c] 73)) (hr.below (HB0.out.mono hB)) (Nat.le_trans hB (le_alloc _ _)))
  generalize plc (pNum q) l 0 = P at *
  clear hr hB
  unfold bunV at *
  go_enter Tryz.func95, Tryz.ntmps95
  go_wp2_with fail
  refine C1.out.mono ?_
  rintro e w1 ⟨rfl, hb⟩
  have HB1 := Lib.hid (HB0.out.trans (hb.mono (le_alloc _ _)))
  clear hb
  go_wp2_with fail
  go_ret
  exact ⟨rfl, HB1.out⟩
end Go.Proofs.YtlecbblmaadpiaaGreatDoor
/- What Encode of layer 6's reference returns. (Made by gen/bun.py.) -/
namespace Go.Proofs.YtlecbblmaadpiaaGreatDoor
open Go.RowKit
end Go.Proofs.YtlecbblmaadpiaaGreatDoor
/- What Dec of layer 1's reference returns. -/
namespace Go.Proofs.YtlecbblmaadpiaaGreatDoor
open Go.RowKit
open Go.Lib (decDigits)
end Go.Proofs.YtlecbblmaadpiaaGreatDoor
/- What Text of layer 4's reference returns. (Made by gen/RfG.py.) -/
namespace Go.Proofs.YtlecbblmaadpiaaGreatDoor
open Go.RowKit
open Go.Lib (decDigits)
end Go.Proofs.YtlecbblmaadpiaaGreatDoor
/- What Payload and Key of layer 6's reference return. (Made by gen/RfM.py, gen/bun.py.) -/
namespace Go.Proofs.YtlecbblmaadpiaaGreatDoor
open Go.RowKit
open Go.Lib (decDigits)
end Go.Proofs.YtlecbblmaadpiaaGreatDoor
/- Layer 9's statements' plain bundle. (Made by gen/bun.py.) -/
namespace Go.Proofs.YtlecbblmaadpiaaGreatDoor
open Go.RowKit
def hP9 : BH := ⟨0, 0, 2, ⟨#[]⟩, 2, 0, 2, ⟨#[]⟩, 1, 0, 1, ⟨#[]⟩, 0, 0, 0, 0, 0⟩
def bP9 : Blk := ⟨1, 1, 0, 0, [5]⟩
theorem hP9_bd : hP9.Bd := ⟨by decide, by decide, by decide, by decide, by decide, by decide, by decide, by decide, by decide, by decide, by decide, by decide, by decide⟩
set_option maxRecDepth 100000 in
set_option maxHeartbeats 4000000 in
theorem plain09_any (w : World) :
    Calls Tryz.prog 105 #[] w fun e w' => Below w.heap.size w w' ∧ ∃ A, e = .returned (bunV hP9 A 1 1) ∧ RdL (mask (lows w.heap.size) w') w'.heap.size A 1 [bP9] := by
  have HR0 := Lib.hid (fun (W : World) (hb : Below (w.heap.size + 1) (w.alloc (.cells #[.int .u64 0, .int .i64 0, .int .i64 0, .string ⟨#[]⟩, .int .u64 0, .int .u64 0, .int .i64 0, .string ⟨#[]⟩, .int .u64 0, .int .u64 0, .int .i64 0, .string ⟨#[]⟩, .int .u64 0, .int .u64 0, .int .u64 0, .int .u64 0, .int .u64 0, .slice none 0 0] 73)) W) => row_of_box rfl hb)
  have hs0 : (w.alloc (.cells #[.int .u64 0, .int .i64 0, .int .i64 0, .string ⟨#[]⟩, .int .u64 0, .int .u64 0, .int .i64 0, .string ⟨#[]⟩, .int .u64 0, .int .u64 0, .int .i64 0, .string ⟨#[]⟩, .int .u64 0, .int .u64 0, .int .u64 0, .int .u64 0, .int .u64 0, .slice none 0 0] 73)).heap.size = w.heap.size + 1 := by simp
  have HS0 := Lib.hid hs0
  have HB0 := Lib.hid ((Below.refl w.heap.size w).alloc (Nat.le_refl _) (.cells #[.int .u64 0, .int .i64 0, .int .i64 0, .string ⟨#[]⟩, .int .u64 0, .int .u64 0, .int .i64 0, .string ⟨#[]⟩, .int .u64 0, .int .u64 0, .int .i64 0, .string ⟨#[]⟩, .int .u64 0, .int .u64 0, .int .u64 0, .int .u64 0, .int .u64 0, .slice none 0 0] 73))
  have hb1 := (Below.refl (w.heap.size + 1) (w.alloc (.cells #[.int .u64 0, .int .i64 0, .int .i64 0, .string ⟨#[]⟩, .int .u64 0, .int .u64 0, .int .i64 0, .string ⟨#[]⟩, .int .u64 0, .int .u64 0, .int .i64 0, .string ⟨#[]⟩, .int .u64 0, .int .u64 0, .int .u64 0, .int .u64 0, .int .u64 0, .slice none 0 0] 73))).alloc (Nat.le_of_eq hs0.symm) (.cells #[.int .u8 5] 5)
  have hb2 := hb1.alloc (by simp) (.cells #[.int .u64 1, .int .u64 1, .int .u64 0, .int .i64 0, .slice (some ⟨w.heap.size + 1, 0, none⟩) 1 1] 48)
  have HB2 := Lib.hid hb2
  have hrd : Rd (((w.alloc (.cells #[.int .u64 0, .int .i64 0, .int .i64 0, .string ⟨#[]⟩, .int .u64 0, .int .u64 0, .int .i64 0, .string ⟨#[]⟩, .int .u64 0, .int .u64 0, .int .i64 0, .string ⟨#[]⟩, .int .u64 0, .int .u64 0, .int .u64 0, .int .u64 0, .int .u64 0, .slice none 0 0] 73)).alloc (.cells #[.int .u8 5] 5)).alloc (.cells #[.int .u64 1, .int .u64 1, .int .u64 0, .int .i64 0, .slice (some ⟨w.heap.size + 1, 0, none⟩) 1 1] 48)) (w.heap.size + 2) (some ⟨w.heap.size + 1, 0, none⟩) 1 [5] :=
    (Rd.lit (w.alloc (.cells #[.int .u64 0, .int .i64 0, .int .i64 0, .string ⟨#[]⟩, .int .u64 0, .int .u64 0, .int .i64 0, .string ⟨#[]⟩, .int .u64 0, .int .u64 0, .int .i64 0, .string ⟨#[]⟩, .int .u64 0, .int .u64 0, .int .u64 0, .int .u64 0, .int .u64 0, .slice none 0 0] 73)) (w.heap.size + 1) (by simp) [5] 5 #[.int .u8 5] rfl 1 rfl).alloc (by simp) _
  have hc : ∀ j u, (#[.int .u64 1, .int .u64 1, .int .u64 0, .int .i64 0, .slice (some ⟨w.heap.size + 1, 0, none⟩) 1 1] : Array Value)[j]? = some u → (((w.alloc (.cells #[.int .u64 0, .int .i64 0, .int .i64 0, .string ⟨#[]⟩, .int .u64 0, .int .u64 0, .int .i64 0, .string ⟨#[]⟩, .int .u64 0, .int .u64 0, .int .i64 0, .string ⟨#[]⟩, .int .u64 0, .int .u64 0, .int .u64 0, .int .u64 0, .int .u64 0, .slice none 0 0] 73)).alloc (.cells #[.int .u8 5] 5)).alloc (.cells #[.int .u64 1, .int .u64 1, .int .u64 0, .int .i64 0, .slice (some ⟨w.heap.size + 1, 0, none⟩) 1 1] 48)).cell? ⟨w.heap.size + 2, j, none⟩ = some u := fun j u hj => by
    rw [World.cell?_alloc_at _ _ _ _ (by simp)]; exact hj
  have mc : ∀ (j : Nat) (u : Value), (((w.alloc (.cells #[.int .u64 0, .int .i64 0, .int .i64 0, .string ⟨#[]⟩, .int .u64 0, .int .u64 0, .int .i64 0, .string ⟨#[]⟩, .int .u64 0, .int .u64 0, .int .i64 0, .string ⟨#[]⟩, .int .u64 0, .int .u64 0, .int .u64 0, .int .u64 0, .int .u64 0, .slice none 0 0] 73)).alloc (.cells #[.int .u8 5] 5)).alloc (.cells #[.int .u64 1, .int .u64 1, .int .u64 0, .int .i64 0, .slice (some ⟨w.heap.size + 1, 0, none⟩) 1 1] 48)).cell? ⟨w.heap.size + 2, j, none⟩ = some u → (mask (lows (w.heap.size + 1)) (((w.alloc (.cells #[.int .u64 0, .int .i64 0, .int .i64 0, .string ⟨#[]⟩, .int .u64 0, .int .u64 0, .int .i64 0, .string ⟨#[]⟩, .int .u64 0, .int .u64 0, .int .i64 0, .string ⟨#[]⟩, .int .u64 0, .int .u64 0, .int .u64 0, .int .u64 0, .int .u64 0, .slice none 0 0] 73)).alloc (.cells #[.int .u8 5] 5)).alloc (.cells #[.int .u64 1, .int .u64 1, .int .u64 0, .int .i64 0, .slice (some ⟨w.heap.size + 1, 0, none⟩) 1 1] 48))).cell? ⟨w.heap.size + 2, j, none⟩ = some u := fun j u hu => (mask_cell (lows_f.2 (show w.heap.size + 1 ≤ w.heap.size + 2 by omega))).trans hu
  have hrl : RdL (mask (lows (w.heap.size + 1)) (((w.alloc (.cells #[.int .u64 0, .int .i64 0, .int .i64 0, .string ⟨#[]⟩, .int .u64 0, .int .u64 0, .int .i64 0, .string ⟨#[]⟩, .int .u64 0, .int .u64 0, .int .i64 0, .string ⟨#[]⟩, .int .u64 0, .int .u64 0, .int .u64 0, .int .u64 0, .int .u64 0, .slice none 0 0] 73)).alloc (.cells #[.int .u8 5] 5)).alloc (.cells #[.int .u64 1, .int .u64 1, .int .u64 0, .int .i64 0, .slice (some ⟨w.heap.size + 1, 0, none⟩) 1 1] 48))) (w.heap.size + 3) (some ⟨w.heap.size + 2, 0, none⟩) 1 [bP9] :=
    ⟨rfl, fun _ => ⟨w.heap.size + 2, 0, rfl, Nat.lt_succ_self _, ⟨⟨some ⟨w.heap.size + 1, 0, none⟩, 1, 1, ⟨mc _ _ (hc 0 _ rfl), mc _ _ (hc 1 _ rfl), mc _ _ (hc 2 _ rfl), mc _ _ (hc 3 _ rfl), mc _ _ (hc 4 _ rfl), ⟨by decide, by decide, by decide⟩, ⟨by decide, by decide⟩, (hrd.mask_any (fun _ b o e => by cases e; exact Nat.le_refl _)).more (Nat.le_succ _)⟩⟩, trivial⟩⟩, by decide⟩
  have HRL := Lib.hid hrl
  clear hb1 hb2 hrd hc hrl hs0 mc
  go_enter Tryz.func105, Tryz.ntmps105
  go_wp2_with (first
    | (refine wpList_st18 rfl 73 (.tmp 0) (.tmp 7) rfl _ rfl rfl _ _ (HR0.out _ HB2.out) info_bun rfl rfl ?_; intro W' hrow' _ hoth hbel hsz; have HWB := Lib.hid (hbel _ _ (HB0.out.trans (HB2.out.mono (Nat.le_succ _))) (Nat.le_refl _)); clear hbel)
    | fail)
  refine bodyPost_ret (res_b Tryz.results105 _ _ rfl hrow' rfl) rfl ⟨HWB.out, some ⟨w.heap.size + 2, 0, none⟩, rfl, ?_⟩
  exact HRL.out.maskgo (Nat.le_succ _) (fun p hp u hu => (hoth p (by omega)).trans hu) (by rw [hsz]; simp)
end Go.Proofs.YtlecbblmaadpiaaGreatDoor
