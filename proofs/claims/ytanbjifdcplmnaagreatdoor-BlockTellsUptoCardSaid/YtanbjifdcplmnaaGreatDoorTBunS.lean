/- Bundles and their blocks as values and in memory. (Made by gen/bun.py.) -/
import Derived.Test.YtanbjifdcplmnaaGreatDoorTBlkI
import Derived.Test.YtanbjifdcplmnaaGreatDoorTCfBlockTells
import Derived.Test.YtanbjifdcplmnaaGreatDoorTEidF
import Derived.Test.YtanbjifdcplmnaaGreatDoorTShaE
namespace Go.Proofs.YtanbjifdcplmnaaGreatDoor
open Go.RowKit

/-! ### Blocks in memory -/
/-- A block's five cells. -/
structure RdK (w : World) (B b o : Nat) (x : Blk) (A : Option Addr) (nd cd : Nat) : Prop where
  k0 : w.cell? ⟨b, o, none⟩ = some (.int .u64 (x.typ : Int))
  k1 : w.cell? ⟨b, o + 1, none⟩ = some (.int .u64 (x.num : Int))
  k2 : w.cell? ⟨b, o + 2, none⟩ = some (.int .u64 (x.flg : Int))
  k3 : w.cell? ⟨b, o + 3, none⟩ = some (.int .i64 x.crc)
  k4 : w.cell? ⟨b, o + 4, none⟩ = some (.slice A nd cd)
  bd : Bd x
  le : nd ≤ cd ∧ nd ≤ 140737488355328
  rd : Rd w B A nd x.dat
theorem RdK.below {w w' : World} {B b o nd cd : Nat} {x : Blk} {A : Option Addr} (h : RdK w B b o x A nd cd) (hb : Below B w w') (hB : b < B) : RdK w' B b o x A nd cd :=
  ⟨(hb.cell hB).trans h.k0, (hb.cell hB).trans h.k1, (hb.cell hB).trans h.k2, (hb.cell hB).trans h.k3, (hb.cell hB).trans h.k4, h.bd, h.le, h.rd.below hb⟩
theorem RdK.more {w : World} {B B' b o nd cd : Nat} {x : Blk} {A : Option Addr} (h : RdK w B b o x A nd cd) (hB : B ≤ B') : RdK w B' b o x A nd cd :=
  ⟨h.k0, h.k1, h.k2, h.k3, h.k4, h.bd, h.le, h.rd.more hB⟩
/-- Blocks one behind the other. -/
def RdKs (w : World) (B b : Nat) : Nat → List Blk → Prop
  | _, [] => True
  | o, x :: r => (∃ A nd cd, RdK w B b o x A nd cd) ∧ RdKs w B b (o + 5) r
theorem RdKs.below {w w' : World} {B b : Nat} (hb : Below B w w') (hB : b < B) : ∀ {l : List Blk} {o : Nat}, RdKs w B b o l → RdKs w' B b o l
  | [], _, _ => trivial
  | _ :: _, _, ⟨⟨A, nd, cd, h⟩, hr⟩ => ⟨⟨A, nd, cd, h.below hb hB⟩, RdKs.below hb hB hr⟩
theorem RdKs.more {w : World} {B B' b : Nat} (hB : B ≤ B') : ∀ {l : List Blk} {o : Nat}, RdKs w B b o l → RdKs w B' b o l
  | [], _, _ => trivial
  | _ :: _, _, ⟨⟨A, nd, cd, h⟩, hr⟩ => ⟨⟨A, nd, cd, h.more hB⟩, RdKs.more hB hr⟩
theorem RdKs.get {w : World} {B b : Nat} : ∀ {l : List Blk} {o : Nat}, RdKs w B b o l → ∀ i (hi : i < l.length), ∃ A nd cd, RdK w B b (o + i * 5) (l[i]'hi) A nd cd
  | x :: r, o, ⟨h, hr⟩, 0, _ => by simpa using h
  | x :: r, o, ⟨h, hr⟩, i + 1, hi => by
    have := RdKs.get hr i (Nat.lt_of_succ_lt_succ hi)
    rw [show o + (i + 1) * 5 = o + 5 + i * 5 by omega]
    simpa using this
theorem RdKs.of_get {w : World} {B b : Nat} : ∀ {l : List Blk} {o : Nat}, (∀ i (hi : i < l.length), ∃ A nd cd, RdK w B b (o + i * 5) (l[i]'hi) A nd cd) → RdKs w B b o l
  | [], _, _ => trivial
  | x :: r, o, h => ⟨by have := h 0 (by simp); rw [Nat.zero_mul, Nat.add_zero] at this; exact this, RdKs.of_get fun i hi => by
      have := h (i + 1) (by simpa using hi)
      rw [show o + (i + 1) * 5 = o + 5 + i * 5 by omega] at this
      simpa using this⟩
theorem RdKs.app {w : World} {B b : Nat} : ∀ {l m : List Blk} {o : Nat}, RdKs w B b o l → RdKs w B b (o + l.length * 5) m → RdKs w B b o (l ++ m)
  | [], m, o, _, h => by simpa using h
  | x :: r, m, o, ⟨h, hr⟩, hm => ⟨h, RdKs.app hr (by rw [show o + 5 + r.length * 5 = o + (x :: r).length * 5 by simp; omega]; exact hm)⟩
/-- A slice of blocks. -/
def RdL (w : World) (B : Nat) (A : Option Addr) (n : Nat) (l : List Blk) : Prop := l.length = n ∧ (0 < n → ∃ b o, A = some ⟨b, o, none⟩ ∧ b < B ∧ RdKs w B b o l) ∧ n ≤ 140737488355328
theorem RdL.below {w w' : World} {B n : Nat} {A : Option Addr} {l : List Blk} (h : RdL w B A n l) (hb : Below B w w') : RdL w' B A n l :=
  ⟨h.1, fun hn => by obtain ⟨b, o, e, h1, h2⟩ := h.2.1 hn; exact ⟨b, o, e, h1, h2.below hb h1⟩, h.2.2⟩
theorem RdL.more {w : World} {B B' n : Nat} {A : Option Addr} {l : List Blk} (h : RdL w B A n l) (hB : B ≤ B') : RdL w B' A n l :=
  ⟨h.1, fun hn => by obtain ⟨b, o, e, h1, h2⟩ := h.2.1 hn; exact ⟨b, o, e, Nat.lt_of_lt_of_le h1 hB, h2.more hB⟩, h.2.2⟩
theorem RdL.nil_ {w : World} {B : Nat} {A : Option Addr} : RdL w B A 0 [] := ⟨rfl, fun h => absurd h (Nat.lt_irrefl 0), Nat.zero_le _⟩
theorem RdL.take {w : World} {B n : Nat} {A : Option Addr} {l : List Blk} (h : RdL w B A n l) (i : Nat) (hi : i ≤ n) : RdL w B A i (l.take i) := by
  obtain ⟨h1, h2, h3⟩ := h
  refine ⟨by rw [List.length_take]; omega, fun h0 => ?_, by omega⟩
  obtain ⟨b, o, e, hb, hk⟩ := h2 (by omega)
  refine ⟨b, o, e, hb, RdKs.of_get fun j hj => ?_⟩
  have hjl : j < l.length := by rw [List.length_take] at hj; omega
  have := hk.get j hjl
  rw [List.getElem_take]
  exact this

/-! ### Bundles' heads: all but the blocks -/
structure BH where
  flg : Nat
  crc : Int
  dsc : Int
  dnm : ByteArray
  dn : Nat
  dv : Nat
  ssc : Int
  snm : ByteArray
  sn : Nat
  sv : Nat
  rsc : Int
  rnm : ByteArray
  rn : Nat
  rv : Nat
  tim : Nat
  seq : Nat
  lif : Nat
def BH.zero : BH := ⟨0, 0, 0, ⟨#[]⟩, 0, 0, 0, ⟨#[]⟩, 0, 0, 0, ⟨#[]⟩, 0, 0, 0, 0, 0⟩
def BH.dst (h : BH) : Epd := ep h.dsc h.dnm h.dn h.dv
def BH.src (h : BH) : Epd := ep h.ssc h.snm h.sn h.sv
def BH.rep (h : BH) : Epd := ep h.rsc h.rnm h.rn h.rv
def BH.bun (h : BH) (l : List Blk) : Bun := ⟨h.flg, h.crc, h.dst, h.src, h.rep, h.tim, h.seq, h.lif, l⟩
/-- Its numbers are below 2^64, its texts no longer than any machine's. -/
structure BH.Bd (h : BH) : Prop where
  flg : h.flg < 18446744073709551616
  dnm : h.dnm.size ≤ 140737488355328
  dn : h.dn < 18446744073709551616
  dv : h.dv < 18446744073709551616
  snm : h.snm.size ≤ 140737488355328
  sn : h.sn < 18446744073709551616
  sv : h.sv < 18446744073709551616
  rnm : h.rnm.size ≤ 140737488355328
  rn : h.rn < 18446744073709551616
  rv : h.rv < 18446744073709551616
  tim : h.tim < 18446744073709551616
  seq : h.seq < 18446744073709551616
  lif : h.lif < 18446744073709551616
def bunV (h : BH) (A : Option Addr) (n c : Nat) : Value := .agg #[.int .u64 (h.flg : Int), .int .i64 h.crc, .int .i64 h.dsc, .string h.dnm, .int .u64 (h.dn : Int), .int .u64 (h.dv : Int), .int .i64 h.ssc, .string h.snm, .int .u64 (h.sn : Int), .int .u64 (h.sv : Int), .int .i64 h.rsc, .string h.rnm, .int .u64 (h.rn : Int), .int .u64 (h.rv : Int), .int .u64 (h.tim : Int), .int .u64 (h.seq : Int), .int .u64 (h.lif : Int), .slice A n c]

/-- The 18 cells of a bundle's box. -/
theorem box18 {w w' : World} {c0 : Value} {c1 : Value} {c2 : Value} {c3 : Value} {c4 : Value} {c5 : Value} {c6 : Value} {c7 : Value} {c8 : Value} {c9 : Value} {c10 : Value} {c11 : Value} {c12 : Value} {c13 : Value} {c14 : Value} {c15 : Value} {c16 : Value} {c17 : Value} {t : TypeId} {g : Nat} (hg : g = w.heap.size) (h : Below (g + 1) (w.alloc (.cells #[c0, c1, c2, c3, c4, c5, c6, c7, c8, c9, c10, c11, c12, c13, c14, c15, c16, c17] t)) w') :
    w'.cell? ⟨g, 0, none⟩ = some c0 ∧ w'.cell? ⟨g, 1, none⟩ = some c1 ∧ w'.cell? ⟨g, 2, none⟩ = some c2 ∧ w'.cell? ⟨g, 3, none⟩ = some c3 ∧ w'.cell? ⟨g, 4, none⟩ = some c4 ∧ w'.cell? ⟨g, 5, none⟩ = some c5 ∧ w'.cell? ⟨g, 6, none⟩ = some c6 ∧ w'.cell? ⟨g, 7, none⟩ = some c7 ∧ w'.cell? ⟨g, 8, none⟩ = some c8 ∧ w'.cell? ⟨g, 9, none⟩ = some c9 ∧ w'.cell? ⟨g, 10, none⟩ = some c10 ∧ w'.cell? ⟨g, 11, none⟩ = some c11 ∧ w'.cell? ⟨g, 12, none⟩ = some c12 ∧ w'.cell? ⟨g, 13, none⟩ = some c13 ∧ w'.cell? ⟨g, 14, none⟩ = some c14 ∧ w'.cell? ⟨g, 15, none⟩ = some c15 ∧ w'.cell? ⟨g, 16, none⟩ = some c16 ∧ w'.cell? ⟨g, 17, none⟩ = some c17 := by
  subst hg
  refine ⟨?_, ?_, ?_, ?_, ?_, ?_, ?_, ?_, ?_, ?_, ?_, ?_, ?_, ?_, ?_, ?_, ?_, ?_⟩ <;> (rw [h.cell (Nat.lt_succ_self _), World.cell?_alloc_at _ _ _ _ rfl]; rfl)
theorem put18_cell {W : World} {g : Nat} {p : Addr} {u : Value} {v0 : Value} {v1 : Value} {v2 : Value} {v3 : Value} {v4 : Value} {v5 : Value} {v6 : Value} {v7 : Value} {v8 : Value} {v9 : Value} {v10 : Value} {v11 : Value} {v12 : Value} {v13 : Value} {v14 : Value} {v15 : Value} {v16 : Value} {v17 : Value} (h : W.cell? p = some u) (hg : ¬ g = p.block) : ((((((((((((((((((((W).setCell ⟨g, 0, none⟩ v0).setCell ⟨g, 1, none⟩ v1).setCell ⟨g, 2, none⟩ v2).setCell ⟨g, 3, none⟩ v3).setCell ⟨g, 4, none⟩ v4).setCell ⟨g, 5, none⟩ v5).setCell ⟨g, 6, none⟩ v6).setCell ⟨g, 7, none⟩ v7).setCell ⟨g, 8, none⟩ v8).setCell ⟨g, 9, none⟩ v9).setCell ⟨g, 10, none⟩ v10).setCell ⟨g, 11, none⟩ v11).setCell ⟨g, 12, none⟩ v12).setCell ⟨g, 13, none⟩ v13).setCell ⟨g, 14, none⟩ v14).setCell ⟨g, 15, none⟩ v15).setCell ⟨g, 16, none⟩ v16).setCell ⟨g, 17, none⟩ v17)).cell? p = some u := by
  have k : ∀ (W : World) (i : Nat) (v : Value), W.cell? p = some u → (W.setCell ⟨g, i, none⟩ v).cell? p = some u := fun W i v h => by
    rw [World.cell?_setCell_far _ _ _ _ hg]; exact h
  exact k _ _ _ (k _ _ _ (k _ _ _ (k _ _ _ (k _ _ _ (k _ _ _ (k _ _ _ (k _ _ _ (k _ _ _ (k _ _ _ (k _ _ _ (k _ _ _ (k _ _ _ (k _ _ _ (k _ _ _ (k _ _ _ (k _ _ _ (k _ _ _ h)))))))))))))))))
theorem below_put18 {B g : Nat} {w W' : World} {v0 : Value} {v1 : Value} {v2 : Value} {v3 : Value} {v4 : Value} {v5 : Value} {v6 : Value} {v7 : Value} {v8 : Value} {v9 : Value} {v10 : Value} {v11 : Value} {v12 : Value} {v13 : Value} {v14 : Value} {v15 : Value} {v16 : Value} {v17 : Value} (h : Below B w W') (hg : B ≤ g) : Below B w ((((((((((((((((((((W').setCell ⟨g, 0, none⟩ v0).setCell ⟨g, 1, none⟩ v1).setCell ⟨g, 2, none⟩ v2).setCell ⟨g, 3, none⟩ v3).setCell ⟨g, 4, none⟩ v4).setCell ⟨g, 5, none⟩ v5).setCell ⟨g, 6, none⟩ v6).setCell ⟨g, 7, none⟩ v7).setCell ⟨g, 8, none⟩ v8).setCell ⟨g, 9, none⟩ v9).setCell ⟨g, 10, none⟩ v10).setCell ⟨g, 11, none⟩ v11).setCell ⟨g, 12, none⟩ v12).setCell ⟨g, 13, none⟩ v13).setCell ⟨g, 14, none⟩ v14).setCell ⟨g, 15, none⟩ v15).setCell ⟨g, 16, none⟩ v16).setCell ⟨g, 17, none⟩ v17)) := by
  have k : ∀ (W : World) (i : Nat) (v : Value), Below B w W → Below B w (W.setCell ⟨g, i, none⟩ v) := fun W i v h => h.setCell (p := ⟨g, i, none⟩) hg v
  exact k _ _ _ (k _ _ _ (k _ _ _ (k _ _ _ (k _ _ _ (k _ _ _ (k _ _ _ (k _ _ _ (k _ _ _ (k _ _ _ (k _ _ _ (k _ _ _ (k _ _ _ (k _ _ _ (k _ _ _ (k _ _ _ (k _ _ _ (k _ _ _ h)))))))))))))))))
theorem size_put18 {W : World} {g : Nat} {v0 : Value} {v1 : Value} {v2 : Value} {v3 : Value} {v4 : Value} {v5 : Value} {v6 : Value} {v7 : Value} {v8 : Value} {v9 : Value} {v10 : Value} {v11 : Value} {v12 : Value} {v13 : Value} {v14 : Value} {v15 : Value} {v16 : Value} {v17 : Value} : ((((((((((((((((((((W).setCell ⟨g, 0, none⟩ v0).setCell ⟨g, 1, none⟩ v1).setCell ⟨g, 2, none⟩ v2).setCell ⟨g, 3, none⟩ v3).setCell ⟨g, 4, none⟩ v4).setCell ⟨g, 5, none⟩ v5).setCell ⟨g, 6, none⟩ v6).setCell ⟨g, 7, none⟩ v7).setCell ⟨g, 8, none⟩ v8).setCell ⟨g, 9, none⟩ v9).setCell ⟨g, 10, none⟩ v10).setCell ⟨g, 11, none⟩ v11).setCell ⟨g, 12, none⟩ v12).setCell ⟨g, 13, none⟩ v13).setCell ⟨g, 14, none⟩ v14).setCell ⟨g, 15, none⟩ v15).setCell ⟨g, 16, none⟩ v16).setCell ⟨g, 17, none⟩ v17)).heap.size = W.heap.size := by simp [World.setCell]
theorem Rd.put18 {W : World} {B B' n g : Nat} {A : Option Addr} {l : List UInt8} {v0 : Value} {v1 : Value} {v2 : Value} {v3 : Value} {v4 : Value} {v5 : Value} {v6 : Value} {v7 : Value} {v8 : Value} {v9 : Value} {v10 : Value} {v11 : Value} {v12 : Value} {v13 : Value} {v14 : Value} {v15 : Value} {v16 : Value} {v17 : Value} (h : Rd W B A n l) (hB : B ≤ B') (hA : 0 < n → ∀ b o, A = some ⟨b, o, none⟩ → ¬ g = b) : Rd ((((((((((((((((((((W).setCell ⟨g, 0, none⟩ v0).setCell ⟨g, 1, none⟩ v1).setCell ⟨g, 2, none⟩ v2).setCell ⟨g, 3, none⟩ v3).setCell ⟨g, 4, none⟩ v4).setCell ⟨g, 5, none⟩ v5).setCell ⟨g, 6, none⟩ v6).setCell ⟨g, 7, none⟩ v7).setCell ⟨g, 8, none⟩ v8).setCell ⟨g, 9, none⟩ v9).setCell ⟨g, 10, none⟩ v10).setCell ⟨g, 11, none⟩ v11).setCell ⟨g, 12, none⟩ v12).setCell ⟨g, 13, none⟩ v13).setCell ⟨g, 14, none⟩ v14).setCell ⟨g, 15, none⟩ v15).setCell ⟨g, 16, none⟩ v16).setCell ⟨g, 17, none⟩ v17)) B' A n l :=
  ⟨h.1, fun hn => by
    obtain ⟨b, o, e, hb, hc⟩ := h.2 hn
    exact ⟨b, o, e, by omega, fun i hi => put18_cell (hc i hi) (hA hn b o e)⟩⟩

/-! ### The world -/
/-- What the listed variables hold. -/
structure Wd (S : Snt) (w : World) : Prop where
  lds : Lds S w
  laid : LaidE w
theorem Wd.below {S : Snt} {w w' : World} {B : Nat} (h : Wd S w) (hb : Below B w w') (hB : w.heap.size ≤ B) : Wd S w' :=
  ⟨h.lds.below hb hB, h.laid.below hb (Nat.lt_of_lt_of_le h.laid.lt hB)⟩
theorem Wd.alloc {S : Snt} {w : World} (h : Wd S w) (o : Obj) : Wd S (w.alloc o) := h.below ((Below.refl _ _).alloc (Nat.le_refl _) o) (Nat.le_refl _)
/-- One more call. -/
theorem Below.push {B : Nat} {W0 w1 w2 : World} (h : Below B W0 w1) (hB : B ≤ W0.heap.size) (h2 : Below w1.heap.size w1 w2) : Below B W0 w2 :=
  h.trans (h2.mono (Nat.le_trans hB h.size))
end Go.Proofs.YtanbjifdcplmnaaGreatDoor
