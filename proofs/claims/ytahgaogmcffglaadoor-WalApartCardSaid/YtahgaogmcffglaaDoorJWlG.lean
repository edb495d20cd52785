/- Numbers and rows of records that come in as arguments, opened. -/
import Derived.Test.YtahgaogmcffglaaDoorJDscA
import Derived.Test.YtahgaogmcffglaaDoorJDscG
import Derived.Test.YtahgaogmcffglaaDoorJRecL
import Derived.Test.YtahgaogmcffglaaDoorJRecO
import Derived.Test.YtahgaogmcffglaaDoorJRecQ
import Derived.Test.YtahgaogmcffglaaDoorJRfA
import Derived.Test.YtahgaogmcffglaaDoorJWlM
import Derived.Deep.Slices
import Derived.ChangeArms
import Derived.ChangeSlices
import Derived.Test.YtahgaogmcffglaaDoorCards
import Derived.Test.YtahgaogmcffglaaDoorTie
import Derived.LaidLaws
import Derived.Lay
import Derived.LaidSub
import Derived.Deep.Onto
import Derived.Deep.CutRange
import Derived.Deep.DeepCutAuto
namespace Go.Proofs.YtahgaogmcffglaaDoor
open Go.RowKit Go.ChangeShapes Go.WideShapes

theorem nat_u64_14 {a : Int} (h : (Lit.int .u64 a).wf = true) : ∃ q : Nat, a = (q : Int) ∧ q < 18446744073709551616 := by
  have hb : 0 ≤ a ∧ a < 18446744073709551616 := by
    simp [Lit.wf, IntKind.min, IntKind.max, IntKind.signed, IntKind.bits] at h
    omega
  exact ⟨a.toNat, by omega, by omega⟩
/-- A slice of n records that came in. -/
def RwA (w : World) (A : Option Addr) (n : Nat) (l : List Rcd) : Prop := l.length = n ∧ (0 < n → ∃ b o, A = some ⟨b, o, none⟩ ∧ b < w.heap.size ∧ ∀ i r, l[i]? = some r → ∃ Ad nd cd, w.cell? ⟨b, o + i * 2, none⟩ = some (.int .i64 r.typ) ∧ w.cell? ⟨b, o + i * 2 + 1, none⟩ = some (.slice Ad nd cd) ∧ nd ≤ cd ∧ Rd w w.heap.size Ad nd r.dat)
theorem RwA.nil_ {w : World} : RwA w none 0 [] := ⟨rfl, fun h => absurd h (Nat.lt_irrefl 0)⟩
theorem RwA.rw {w : World} {A : Option Addr} {n : Nat} {l : List Rcd} (h : RwA w A n l) (hd : ∀ r ∈ l, r.dat.length ≤ 300) : l.length = n ∧ (0 < n → ∃ b o, A = some ⟨b, o, none⟩ ∧ b < w.heap.size ∧ RdC w w.heap.size b o l) := by
  refine ⟨h.1, fun h0 => ?_⟩
  obtain ⟨b, o, hA, hb, hx⟩ := h.2 h0
  refine ⟨b, o, hA, hb, fun i r hi => ?_⟩
  obtain ⟨Ad, nd, cd, h1, h2, h3, h4⟩ := hx i r hi
  refine ⟨Ad, nd, cd, h1, h2, h3, ?_, h4⟩
  have := hd r (List.mem_of_getElem? hi)
  have := h4.1
  omega
set_option maxRecDepth 100000 in
/-- A record that came in, by its cells. -/
theorem open_rec {H : Type} {enc : TypeId × Value → H} {w : World} {base : Nat} {spare : Nat → Bool} {held : Bool} {fuel : Nat} {cs : List Value} {x : DataW H × List MemPlace}
    (h : DataW.trod enc Tryd.prog w base spare held fuel 35 cs = some x) : ∃ (t : Int) (A : Option Addr) (n c : Nat) (d : List UInt8), cs = [.int .i64 t, .slice A n c] ∧ (Lit.int .i64 t).wf = true ∧ n ≤ c ∧ n ≤ maxLen ∧ Rd w w.heap.size A n d := by
  obtain ⟨xs, k', -, -, hl2, hlx, hfs⟩ := DataW.trod_struct Tryd.underlying35 h
  rw [cellsRec.1] at hl2
  match cs, hl2 with
  | [v0, v1], _ =>
    obtain ⟨t, A, n, c, d, rfl, rfl, h1, h2, h3, h4⟩ := open_rec_cells h
    exact ⟨t, A, n, c, d, rfl, h1, h2, h3, h4⟩
instance : Inhabited Rcd := ⟨Rcd.zero⟩
/-- A row of records that came in. -/
theorem open_recs {H : Type} {enc : TypeId × Value → H} {w : World} {base : Nat} {spare : Nat → Bool} {held : Bool} {fuel : Nat} {A : Option Addr} {n c : Nat} {x : DataW H × List MemPlace}
    (h : DataW.trod enc Tryd.prog w base spare held fuel 29 [.slice A n c] = some x) : n ≤ c ∧ ∃ l, RwA w A n l := by
  rcases Deep.open_slice Tryd.underlying29 h with ⟨h0, -⟩ | ⟨a, len, cap, m, k, D, Pl, h0, -, hl, -, hm, -, hx⟩
  · simp at h0
    obtain ⟨rfl, rfl, rfl⟩ := h0
    exact ⟨Nat.le_refl _, [], RwA.nil_⟩
  · simp at h0
    obtain ⟨rfl, rfl, rfl⟩ := h0
    refine ⟨hl, ?_⟩
    have hlm : n ≤ m := by rw [hm]; split <;> omega
    obtain ⟨ce, ci, cb⟩ := cellsRec
    have each : ∀ i, i < n → ∃ r : Rcd, ∃ Ad nd cd, w.cell? (a.add (i * 2)) = some (.int .i64 r.typ) ∧ w.cell? (a.add (i * 2 + 1)) = some (.slice Ad nd cd) ∧ nd ≤ cd ∧ Rd w w.heap.size Ad nd r.dat := by
      intro i hi
      obtain ⟨cs', h1, h2⟩ := hx i (by omega)
      rw [ce] at h1
      obtain ⟨_, hlen, hcell⟩ := World.cells?_some h1
      match cs', hlen with
      | [v0, v1], _ =>
        obtain ⟨t, A1, n1, c1, d, rfl, rfl, -, hnc, -, hr⟩ := open_rec_cells h2
        refine ⟨⟨t, d⟩, A1, n1, c1, ?_, ?_, hnc, hr⟩
        · have q := hcell 0 (by decide)
          rw [Deep.add_add] at q
          simpa using q
        · have q := hcell 1 (by decide)
          rw [Deep.add_add] at q
          simpa using q
    obtain ⟨q, hq⟩ := Deep.choose_lt each
    refine ⟨(List.range n).map q, by simp, fun h0 => ?_⟩
    obtain ⟨b, o, spot⟩ := a
    obtain ⟨Ad0, nd0, cd0, k0, -⟩ := hq 0 h0
    have hs : spot = none := by simpa [Addr.add] using World.cell?_spot k0
    subst hs
    refine ⟨b, o, rfl, ?_, fun i r hi => ?_⟩
    · rw [add_mk14] at k0
      exact World.block_lt_of_cell? w _ k0
    · have hin : i < n := by
        rcases Nat.lt_or_ge i n with h | h
        · exact h
        · rw [List.getElem?_eq_none (by simpa using h)] at hi; cases hi
      rw [List.getElem?_map, List.getElem?_range hin] at hi
      obtain rfl : q i = r := Option.some.inj hi
      obtain ⟨Ad, nd, cd, k1, k2, k3, k4⟩ := hq i hin
      rw [add_mk14] at k1 k2
      exact ⟨Ad, nd, cd, k1, by rw [Nat.add_assoc]; exact k2, k3, k4⟩
end Go.Proofs.YtahgaogmcffglaaDoor
/- What the listed variables give: the two sentinels of layer 14; and a world that holds them. -/
namespace Go.Proofs.YtahgaogmcffglaaDoor
open Go.RowKit

def laidL : List (String × DataW Unit) := [("fairlead/record.errShort", Rows.laid_fairlead_record_errShort), ("fairlead/record.errRecord", Rows.laid_fairlead_record_errRecord)]
theorem gS14 : Tryd.prog.globalNamed "fairlead/record.errShort" = some 1 := by kernel_rfl
theorem gR14 : Tryd.prog.globalNamed "fairlead/record.errRecord" = some 0 := by kernel_rfl
theorem gtS14 : (Tryd.prog.globals[1]?).map (·.type) = some 101 := by kernel_rfl
theorem gtR14 : (Tryd.prog.globals[0]?).map (·.type) = some 101 := by kernel_rfl
theorem cellsEs14 : Tryd.prog.cellsOf 166 = 1 := by kernel_rfl
theorem cellsSt14 : Tryd.prog.cellsOf 9 = 1 := by kernel_rfl
theorem starE14 : "*" ++ "errors.errorString" = "*errors.errorString" := by decide
theorem rowE14 (u : TypeId) (h : Tryd.prog.typeName? 3 u = some "*errors.errorString") : u = 142 :=
  typeName_ptr_named (nm := "errors.errorString") (by rw [starE14]; kernel_rfl) (by kernel_rfl) (by decide) u (by rw [starE14]; exact h)

set_option maxRecDepth 1000000 in
/-- One sentinel's cell, and where its text lies. -/
theorem one_of14 {W : World} {n : String} {g : Nat} {text : List UInt8} {t : TypeId} {cs : Array Value} {fuel : Nat} {p : List MemPlace} {ps : List MemPlace}
    (hg : Tryd.prog.globalNamed n = some g) (ht : (Tryd.prog.globals[g]?).map (·.type) = some 101) (ht' : (Tryd.prog.globals[g]?).map (·.type) = some t) (hv : W.var? Tryd.prog n = some cs)
    (hd : DataW.trod (fun _ => ()) Tryd.prog W 0 (fun _ => true) false fuel t cs.toList = some (.iface "*errors.errorString" (.ptr (.agg [.lit (.string text)])), p))
    (hrows : ∀ b off, MemPlace.cell b off ∈ ps → (∃ c t, W.heap[b]? = some (.cells c t (0, 0))) ∧ ∀ u v, W.cell? ⟨b, off, none⟩ = some (.iface u v) → Value.okWide Tryd.prog W .any 0 u v)
    (hin : ∀ x ∈ MemPlace.row ⟨g, 0, none⟩ cs.size ++ p, x ∈ ps) :
    ∃ a : Addr, cs = #[snt14 a] ∧ p = MemPlace.row a 1 ∧ W.cell? ⟨g, 0, none⟩ = some (snt14 a) ∧ ∃ c t, W.heap[a.block]? = some (.cells c t (0, 0)) := by
  obtain rfl := Option.some.inj (ht.symm.trans ht')
  obtain ⟨l⟩ := cs
  have ok : ∀ u v, l = [.iface u v] → Value.okWide Tryd.prog W .any 0 u v := fun u v e => by
    subst e
    exact (hrows g 0 (hin _ (by simp [MemPlace.row]))).2 u v (by simpa using World.var?_cell hg hv 0)
  obtain ⟨a, s, rfl, hc, -, -, rfl⟩ := errorString_of_trod Tryd.underlying101 rowE14 Tryd.underlying142 Tryd.underlying166 rfl rfl Tryd.underlying9 cellsEs14 cellsSt14 hd ok
  obtain ⟨c, t, hb⟩ := (hrows a.block a.off (hin _ (by simp [MemPlace.row]))).1
  exact ⟨a, rfl, rfl, by simpa [snt14] using World.var?_cell hg hv 0, c, t, hb⟩

set_option maxRecDepth 1000000 in
theorem lds14_of {W : World} (h : laidMet Tryd.prog laidL W) : ∃ A, Lds14 A W := by
  obtain ⟨ps, hv, hnd, hrows⟩ := h
  unfold laidL at hv
  simp only [DataW.LaidVars] at hv
  obtain ⟨g8, t8, c8, f8, p8, q8, hg8, ht8, hw8, hd8, ⟨g9, t9, c9, f9, p9, q9, hg9, ht9, hw9, hd9, e9, e8'⟩, e8⟩ := hv
  obtain rfl := Option.some.inj (gS14.symm.trans hg8)
  obtain rfl := Option.some.inj (gR14.symm.trans hg9)
  subst e9 e8' e8
  obtain ⟨a8, rfl, rfl, k8, r8⟩ := one_of14 gS14 gtS14 ht8 hw8 hd8 hrows (fun x hx => by simp only [List.mem_append] at hx ⊢; rcases hx with h | h <;> simp only [h, true_or, or_true])
  obtain ⟨a9, rfl, rfl, k9, r9⟩ := one_of14 gR14 gtR14 ht9 hw9 hd9 hrows (fun x hx => by simp only [List.mem_append] at hx ⊢; rcases hx with h | h <;> simp only [h, true_or, or_true])
  simp [MemPlace.row] at hnd
  refine ⟨⟨a8, a9⟩, k8, k9, ?_, ?_⟩
  · rintro a (rfl | rfl)
    · exact r8
    · exact r9
  · intro e
    dsimp only at e
    subst e
    simp at hnd

noncomputable def laidW (os : Os) : World := World.laidAll Tryd.prog os laidL
theorem laidW_met (os : Os) (args : Array Value) : laidMet Tryd.prog laidL ((laidW os).forCall (fun _ _ => 0) ⟨#[], args, []⟩).memory :=
  laidMet_laidAll args (by kernel_rfl) (by kernel_rfl)
theorem laidH {W : World} (h : laidMetH Tryd.prog laidL W) : laidMet Tryd.prog laidL W := by
  have h1 := (laidMetH_iff.1 h).1
  rwa [show (laidL.filter fun x => x.2.handleName?.isNone) = laidL from by kernel_rfl] at h1
theorem laidW_metH (os : Os) (args : Array Value) : laidMetH Tryd.prog laidL ((laidW os).forCall (fun _ _ => 0) ⟨#[], args, []⟩).memory := by
  unfold laidMetH
  rw [show (laidL.filter fun x => x.2.handleName?.isSome) = [] from by kernel_rfl]
  exact laidW_met os args
end Go.Proofs.YtahgaogmcffglaaDoor
/- Rows of calls that come in, of layer 15. -/
namespace Go.Proofs.YtahgaogmcffglaaDoor
open Go.RowKit Go.ChangeShapes Go.WideShapes

/-- A slice of n ints reads as xs. -/
def Rz15 (w : World) (A : Option Addr) (n : Nat) (xs : List Int) : Prop :=
  n = xs.length ∧ (0 < n → ∃ b o, A = some ⟨b, o, none⟩ ∧ ∀ j x, xs[j]? = some x → w.cell? ⟨b, o + j, none⟩ = some (.int .i64 x))
theorem Rz15.nil_ {w : World} : Rz15 w none 0 [] := ⟨rfl, fun h => absurd h (Nat.lt_irrefl 0)⟩
theorem Rz15.below {w w' : World} {A : Option Addr} {n : Nat} {xs : List Int} (h : Rz15 w A n xs) (hb : Below w.heap.size w w') : Rz15 w' A n xs :=
  ⟨h.1, fun h0 => by
    obtain ⟨b, o, hA, hx⟩ := h.2 h0
    exact ⟨b, o, hA, fun j x hj => (World.cell?_of_block (w := w) (a := ⟨b, o + j, none⟩) (hb.block b (World.block_lt_of_cell? w ⟨b, o + j, none⟩ (hx j x hj)))).trans (hx j x hj)⟩⟩
theorem Rz15.of_ints {w : World} {x : Addr} {n c : Nat} {zs : List Int} (hn : n ≤ c) (hz : zs.length = c) (hcell : ∀ i, i < zs.length → w.cell? (x.add i) = some (.int .i64 (zs.getD i 0))) : Rz15 w (some x) n (zs.take n) := by
  refine ⟨by simp; omega, fun h0 => ?_⟩
  obtain ⟨b, off, spot⟩ := x
  have hc := hcell 0 (by omega)
  have hspot : spot = none := by simpa [Addr.add] using World.cell?_spot hc
  subst hspot
  refine ⟨b, off, rfl, fun j x hj => ?_⟩
  have hjn : j < n := by
    rcases Nat.lt_or_ge j n with h | h
    · exact h
    · rw [List.getElem?_eq_none (by simp; omega)] at hj; cases hj
  rw [List.getElem?_take_of_lt hjn] at hj
  have := hcell j (by omega)
  rw [add_mk14] at this
  rw [this, List.getD_eq_getElem?_getD, hj]
  rfl
/-- A call. -/
structure OpW where
  kind : Int
  r : Rcd
  ra : Option Addr
  rn : Nat
  rc : Nat
  l : List Rcd
  la : Option Addr
  ln : Nat
  lc : Nat
  at_ : Int
  keep : List Int
  ka : Option Addr
  kn : Nat
  kc : Nat
instance : Inhabited OpW := ⟨⟨0, Rcd.zero, none, 0, 0, [], none, 0, 0, 0, [], none, 0, 0⟩⟩
/-- The cells of a call. -/
def OpW.cs (x : OpW) : List Value := [.int .i64 x.kind, .int .i64 x.r.typ, .slice x.ra x.rn x.rc, .slice x.la x.ln x.lc, .int .i64 x.at_, .slice x.ka x.kn x.kc]
/-- What a call's slices are good for. -/
def OpW.ok (w : World) (x : OpW) : Prop := (Lit.int .i64 x.at_).wf = true ∧ (x.rn ≤ x.rc ∧ Rd w w.heap.size x.ra x.rn x.r.dat) ∧ (x.ln ≤ x.lc ∧ RwA w x.la x.ln x.l) ∧ x.kn ≤ x.kc ∧ Rz15 w x.ka x.kn x.keep
/-- A slice of n calls reads as l. -/
def RdO15 (w : World) (A : Option Addr) (n : Nat) (l : List OpW) : Prop :=
  n = l.length ∧ (∀ x ∈ l, x.ok w) ∧ (0 < n → ∃ b o, A = some ⟨b, o, none⟩ ∧ b < w.heap.size ∧ ∀ i x, l[i]? = some x → ∀ j v, x.cs[j]? = some v → w.cell? ⟨b, o + i * 6 + j, none⟩ = some v)
theorem cells15 : Tryd.prog.cellsOf 38 = 6 ∧ Tryd.prog.cellsOf 3 = 1 ∧ Tryd.prog.cellsOf 35 = 2 ∧ Tryd.prog.cellsOf 29 = 1 ∧ Tryd.prog.cellsOf 36 = 1 := ⟨by kernel_rfl, by kernel_rfl, by kernel_rfl, by kernel_rfl, by kernel_rfl⟩
set_option maxRecDepth 100000 in
/-- A row of calls that came in. -/
theorem open_ops15 {H : Type} {enc : TypeId × Value → H} {w : World} {base : Nat} {spare : Nat → Bool} {held : Bool} {fuel : Nat} {A : Option Addr} {n c : Nat} {x : DataW H × List MemPlace}
    (h : DataW.trod enc Tryd.prog w base spare held fuel 22 [.slice A n c] = some x) : n ≤ c ∧ ∃ l, RdO15 w A n l := by
  rcases Deep.open_slice Tryd.underlying22 h with ⟨h0, -⟩ | ⟨a, len, cap, m, k, D, Pl, h0, -, hl, -, hm, -, hx⟩
  · simp at h0
    obtain ⟨rfl, rfl, rfl⟩ := h0
    exact ⟨Nat.le_refl _, [], rfl, fun x hx => by simp at hx, fun h => absurd h (Nat.lt_irrefl 0)⟩
  · simp at h0
    obtain ⟨rfl, rfl, rfl⟩ := h0
    refine ⟨hl, ?_⟩
    have hlm : n ≤ m := by rw [hm]; split <;> omega
    obtain ⟨ce, ci, cr, cl, cz⟩ := cells15
    have each : ∀ i, i < n → ∃ q : OpW, q.ok w ∧ ∀ j v, q.cs[j]? = some v → w.cell? (a.add (i * 6 + j)) = some v := by
      intro i hi
      obtain ⟨cs', h1, h2⟩ := hx i (by omega)
      rw [ce] at h1
      obtain ⟨_, hlen, hcell⟩ := World.cells?_some h1
      obtain ⟨xs, k', -, -, hl5, hlx, hfs⟩ := DataW.trod_struct Tryd.underlying38 h2
      obtain ⟨y0, y1, y2, y3, y4, rfl⟩ : ∃ y0 y1 y2 y3 y4, xs = [y0, y1, y2, y3, y4] := by
        match xs, hlx with
        | [y0, y1, y2, y3, y4], _ => exact ⟨y0, y1, y2, y3, y4, rfl⟩
      have g0 := hfs 0 _ rfl
      have g1 := hfs 1 _ rfl
      have g2 := hfs 2 _ rfl
      have g3 := hfs 3 _ rfl
      have g4 := hfs 4 _ rfl
      clear hfs
      match cs', hlen with
      | [v0, v1, v2, v3, v4, v5], _ =>
        simp [ci, cr, cl, cz] at g0 g1 g2 g3 g4
        obtain ⟨z0, e0, -, -⟩ := DataW.trod_int Tryd.underlying3 g0
        obtain ⟨t1, A1, n1, c1, d1, rfl, rfl, -, hc1, -, hr1⟩ := open_rec_cells g1
        obtain ⟨z3, e3, -, w3⟩ := DataW.trod_int Tryd.underlying3 g3
        simp only [List.cons.injEq, and_true] at e0 e3
        subst e0 e3
        obtain ⟨A2, n2, c2, l2, rfl, hc2, hl2⟩ : ∃ A2 n2 c2 l2, v3 = .slice A2 n2 c2 ∧ n2 ≤ c2 ∧ RwA w A2 n2 l2 := by
          rcases Deep.open_slice Tryd.underlying29 g2 with ⟨h0, -⟩ | ⟨a', len', cap', m', k2, D2, P2, h0, -, -, -, -, -, -⟩
          · simp at h0
            subst h0
            exact ⟨none, 0, 0, [], rfl, Nat.le_refl _, RwA.nil_⟩
          · simp at h0
            subst h0
            obtain ⟨hc, l2, hl2⟩ := open_recs g2
            exact ⟨_, _, _, l2, rfl, hc, hl2⟩
        obtain ⟨A4, n4, c4, ks, rfl, hk4, hk⟩ : ∃ A4 n4 c4 ks, v5 = .slice A4 n4 c4 ∧ n4 ≤ c4 ∧ Rz15 w A4 n4 ks := by
          rcases open_ints Tryd.underlying36 Tryd.underlying3 (by kernel_rfl) g4 with ⟨hcs, _⟩ | ⟨x, l, c, zs, hcs, _, hlc, hm, hz, hd, hcell4, hwz⟩
          · simp only [List.cons.injEq, and_true] at hcs
            exact ⟨none, 0, 0, [], hcs, Nat.le_refl _, Rz15.nil_⟩
          · simp only [List.cons.injEq, and_true] at hcs
            exact ⟨some x, l, c, zs.take l, hcs, hlc, Rz15.of_ints (by rw [hz]; split <;> omega) rfl hcell4⟩
        refine ⟨⟨z0, ⟨t1, d1⟩, A1, n1, c1, l2, A2, n2, c2, z3, ks, A4, n4, c4⟩, ⟨w3, ⟨hc1, hr1⟩, ⟨hc2, hl2⟩, hk4, hk⟩, fun j v hv => ?_⟩
        have hj : j < 6 := (List.getElem?_eq_some_iff.1 hv).1
        have q := hcell j hj
        rw [Deep.add_add] at q
        rw [q, ← hv]
        rfl
    obtain ⟨q, hq⟩ := Deep.choose_lt each
    refine ⟨(List.range n).map q, by simp, fun x hx => ?_, fun h0 => ?_⟩
    · obtain ⟨i, hi, rfl⟩ := List.mem_map.1 hx
      exact (hq i (List.mem_range.1 hi)).1
    · obtain ⟨b, o, spot⟩ := a
      have k0 := (hq 0 h0).2 0 _ rfl
      have hs : spot = none := by simpa [Addr.add] using World.cell?_spot k0
      subst hs
      refine ⟨b, o, rfl, by rw [add_mk14] at k0; exact World.block_lt_of_cell? w _ k0, fun i x hi j v hv => ?_⟩
      have hin : i < n := by
        rcases Nat.lt_or_ge i n with h | h
        · exact h
        · rw [List.getElem?_eq_none (by simpa using h)] at hi; cases hi
      rw [List.getElem?_map, List.getElem?_range hin] at hi
      obtain rfl : q i = x := Option.some.inj hi
      have := (hq i hin).2 j v hv
      rw [add_mk14] at this
      rw [Nat.add_assoc]
      exact this
end Go.Proofs.YtahgaogmcffglaaDoor
/- A disk that no call made. -/
namespace Go.Proofs.YtahgaogmcffglaaDoor
open Go.RowKit

/-- No call made it. -/
def Nob (w : World) (p : Option Addr) : Prop := p = none ∨ ∃ g, p = some ⟨g, 0, none⟩ ∧ w.cell? ⟨g, 0, none⟩ = some (.slice none 0 0)
theorem Nob.below {w w' : World} {p : Option Addr} (h : Nob w p) (hb : Below w.heap.size w w') : Nob w' p := by
  rcases h with h | ⟨g, h, hc⟩
  · exact .inl h
  · exact .inr ⟨g, h, (hb.cell (World.block_lt_of_cell? w ⟨g, 0, none⟩ hc)).trans hc⟩
theorem ngiven_any (w : World) {p : Option Addr} (h : Nob w p) : Calls Tryd.prog 48 #[.pointer p] w fun e w' => e = .returned (.bool false) ∧ w = w' := by
  rcases h with rfl | ⟨g, rfl, hc⟩
  · exact cgiven_no w
  · exact cgiven_zero w hc
set_option maxRecDepth 100000 in
set_option maxHeartbeats 1000000 in
theorem nruns_any (w : World) {p : Option Addr} (h : Nob w p) : Calls Tryd.prog 34 #[.pointer p] w fun e w' => e = .returned (.int .i64 1) ∧ w = w' := by
  have C1 := Lib.hid (ngiven_any w h)
  go_enter Tryd.func34, Tryd.ntmps34
  go_wp2_with fail
  refine C1.out.mono ?_
  rintro e w1 ⟨rfl, rfl⟩
  go_wp2_with fail
  go_ret
  exact ⟨rfl, rfl⟩
set_option maxRecDepth 100000 in
set_option maxHeartbeats 1000000 in
theorem nreaches_any (at_ : Int) (w : World) {p : Option Addr} (h : Nob w p) : Calls Tryd.prog 32 #[.pointer p, .int .i64 at_] w fun e w' => e = .returned (.int .i64 1) ∧ w = w' := by
  have C1 := Lib.hid (nruns_any w h)
  go_enter Tryd.func32, Tryd.ntmps32
  go_wp2_with fail
  refine C1.out.mono ?_
  rintro e w1 ⟨rfl, rfl⟩
  go_wp2_with fail
  go_ret
  exact ⟨rfl, rfl⟩
set_option maxRecDepth 100000 in
set_option maxHeartbeats 1000000 in
theorem nread_any (at_ : Int) (w : World) {p : Option Addr} (h : Nob w p) : Calls Tryd.prog 14 #[.pointer p, .int .i64 at_] w fun e w' => e = .returned (.tuple #[.slice none 0 0, .int .i64 1]) ∧ w = w' := by
  have C1 := Lib.hid (nreaches_any at_ w h)
  go_enter Tryd.func14, Tryd.ntmps14
  go_wp2_with fail
  refine C1.out.mono ?_
  rintro e w1 ⟨rfl, rfl⟩
  go_wp2_with fail
  exact bodyPost_ret (v := .tuple #[.slice none 0 0, .int .i64 1]) (by simp [results, Tryd.results14, go_sem]) rfl ⟨rfl, rfl⟩
set_option maxRecDepth 100000 in
set_option maxHeartbeats 1000000 in
theorem nwrite_any (at_ : Int) (v : Value) (w : World) {p : Option Addr} (h : Nob w p) : Calls Tryd.prog 12 #[.pointer p, .int .i64 at_, v] w fun e w' => e = .returned (.int .i64 1) ∧ w = w' := by
  have C1 := Lib.hid (nreaches_any at_ w h)
  go_enter Tryd.func12, Tryd.ntmps12
  go_wp2_with fail
  refine C1.out.mono ?_
  rintro e w1 ⟨rfl, rfl⟩
  go_wp2_with fail
  go_ret
  exact ⟨rfl, rfl⟩
set_option maxRecDepth 100000 in
set_option maxHeartbeats 1000000 in
theorem nflush_any (w : World) {p : Option Addr} (h : Nob w p) : Calls Tryd.prog 13 #[.pointer p] w fun e w' => e = .returned (.int .i64 1) ∧ w = w' := by
  have C1 := Lib.hid (nruns_any w h)
  go_enter Tryd.func13, Tryd.ntmps13
  go_wp2_with fail
  refine C1.out.mono ?_
  rintro e w1 ⟨rfl, rfl⟩
  go_wp2_with fail
  go_ret
  exact ⟨rfl, rfl⟩
set_option maxRecDepth 100000 in
set_option maxHeartbeats 1000000 in
theorem nalive_any (w : World) {p : Option Addr} (h : Nob w p) : Calls Tryd.prog 29 #[.pointer p] w fun e w' => e = .returned (.bool false) ∧ w = w' := by
  have C1 := Lib.hid (ngiven_any w h)
  go_enter Tryd.func29, Tryd.ntmps29
  go_wp2_with fail
  refine C1.out.mono ?_
  rintro e w1 ⟨rfl, rfl⟩
  go_wp2_with fail
  go_ret
  exact ⟨rfl, rfl⟩
set_option maxRecDepth 100000 in
set_option maxHeartbeats 1000000 in
theorem nwaiting_any (w : World) {p : Option Addr} (h : Nob w p) : Calls Tryd.prog 45 #[.pointer p] w fun e w' => e = .returned (.int .i64 0) ∧ w = w' := by
  have C1 := Lib.hid (ngiven_any w h)
  go_enter Tryd.func45, Tryd.ntmps45
  go_wp2_with fail
  refine C1.out.mono ?_
  rintro e w1 ⟨rfl, rfl⟩
  go_wp2_with fail
  go_ret
  exact ⟨rfl, rfl⟩
set_option maxRecDepth 100000 in
set_option maxHeartbeats 1000000 in
theorem nsectors_any (w : World) {p : Option Addr} (h : Nob w p) : Calls Tryd.prog 44 #[.pointer p] w fun e w' => e = .returned (.int .i64 0) ∧ w = w' := by
  have C1 := Lib.hid (ngiven_any w h)
  go_enter Tryd.func44, Tryd.ntmps44
  go_wp2_with fail
  refine C1.out.mono ?_
  rintro e w1 ⟨rfl, rfl⟩
  go_wp2_with fail
  go_ret
  exact ⟨rfl, rfl⟩
set_option maxRecDepth 100000 in
set_option maxHeartbeats 1000000 in
theorem narm_any (n : Int) (w : World) {p : Option Addr} (h : Nob w p) : Calls Tryd.prog 28 #[.pointer p, .int .i64 n] w fun e w' => e = .returned (.tuple #[]) ∧ w = w' := by
  have C1 := Lib.hid (ngiven_any w h)
  go_enter Tryd.func28, Tryd.ntmps28
  go_wp2_with fail
  refine C1.out.mono ?_
  rintro e w1 ⟨rfl, rfl⟩
  go_wp2_with fail
  exact bodyPost_end (v := .tuple #[]) (by simp [results, Tryd.results28]) rfl ⟨rfl, rfl⟩
set_option maxRecDepth 100000 in
set_option maxHeartbeats 1000000 in
theorem nstart_any (w : World) {p : Option Addr} (h : Nob w p) : Calls Tryd.prog 31 #[.pointer p] w fun e w' => e = .returned (.tuple #[]) ∧ w = w' := by
  have C1 := Lib.hid (ngiven_any w h)
  go_enter Tryd.func31, Tryd.ntmps31
  go_wp2_with fail
  refine C1.out.mono ?_
  rintro e w1 ⟨rfl, rfl⟩
  go_wp2_with fail
  exact bodyPost_end (v := .tuple #[]) (by simp [results, Tryd.results31]) rfl ⟨rfl, rfl⟩
set_option maxRecDepth 100000 in
set_option maxHeartbeats 1000000 in
theorem ncrash_any (A : Option Addr) (n c : Nat) (w : World) {p : Option Addr} (h : Nob w p) : Calls Tryd.prog 30 #[.pointer p, .slice A n c] w fun e w' => e = .returned (.tuple #[]) ∧ Below w.heap.size w w' := by
  have hb : Below w.heap.size w (w.alloc (.cells #[.slice A n c] 36)) := (Below.refl _ _).alloc (Nat.le_refl _) _
  have C1 := Lib.hid (ngiven_any _ (h.below hb))
  have HB := Lib.hid hb
  clear h hb
  go_enter Tryd.func30, Tryd.ntmps30
  go_wp2_with fail
  refine C1.out.mono ?_
  rintro e w1 ⟨rfl, rfl⟩
  go_wp2_with fail
  exact bodyPost_ret (v := .tuple #[]) (by simp [results, Tryd.results30]) rfl ⟨rfl, HB.out⟩
end Go.Proofs.YtahgaogmcffglaaDoor
/- The code's disk in a law: what each call makes of it. -/
namespace Go.Proofs.YtahgaogmcffglaaDoor
open Go.RowKit

theorem CDk.mono {w : World} {F : Nat → Prop} {B B' g : Nat} {D : Cd} (h : CDk w F B g D) (hB : B' ≤ B) : CDk w F B' g D := by
  obtain ⟨ga, vw, h1, h2, h3, h4, h5, h6, h7⟩ := h.st
  exact ⟨Nat.le_trans hB h.le, h.fg, h.wide, h.pos, h.few, h.inn, h.wid, fun k hk => ⟨Nat.le_trans hB (h.fit k hk).1, (h.fit k hk).2⟩, ga, vw, h1, h2, h3, Nat.le_trans hB h4, h5, World.ownsRow.mono h6 hB, h7⟩
/-- Nothing asks whether there is power: a disk with power for ever. -/
theorem Cd.fp_end {D : Cd} (h : D.left = -1) : D.fp = D := by unfold Cd.fp; rw [if_neg (by omega), if_neg (by omega)]
theorem Cd.write_end {D : Cd} {at_ : Int} {b : List UInt8} (hp : D.power = true) (h : D.left = -1) (h0 : 0 ≤ at_) (h1 : at_ < (D.secs.length : Int)) (hb : b.length = 64) : D.write at_ b = ({ D with waits := D.waits ++ [(at_.toNat, b)] }, 0) := by
  unfold Cd.write
  rw [Cd.fp_end h, if_neg (by simp [hp]), if_neg (by omega), if_neg (by omega), if_neg (by simp [hp])]
theorem Cd.write_off {D : Cd} {at_ : Int} {b : List UInt8} (hp : D.power = true) (h : at_ < 0 ∨ (D.secs.length : Int) ≤ at_) : D.write at_ b = (D, 130) := by
  unfold Cd.write
  rw [if_neg (by simp [hp]), if_pos h]
theorem Cd.write_short {D : Cd} {at_ : Int} {b : List UInt8} (hp : D.power = true) (h0 : 0 ≤ at_) (h1 : at_ < (D.secs.length : Int)) (hb : b.length ≠ 64) : D.write at_ b = (D, 2) := by
  unfold Cd.write
  rw [if_neg (by simp [hp]), if_neg (by omega), if_pos hb]
theorem Cd.flush_end {D : Cd} (hp : D.power = true) (h : D.left = -1) : D.flush = ({ D with secs := layW D.secs D.waits, waits := [] }, 0) := by
  unfold Cd.flush
  rw [Cd.fp_end h, if_neg (by simp [hp]), if_neg (by simp [hp])]
theorem Cd.write_len {D : Cd} {at_ : Int} {b : List UInt8} : (D.write at_ b).1.secs.length = D.secs.length ∧ (D.write at_ b).1.waits.length ≤ D.waits.length + 1 := by
  unfold Cd.write
  split
  · exact ⟨rfl, Nat.le_succ _⟩
  · split
    · exact ⟨rfl, Nat.le_succ _⟩
    · split
      · exact ⟨rfl, Nat.le_succ _⟩
      · split
        · exact ⟨by rw [Cd.fp_secs], by rw [Cd.fp_waits]; omega⟩
        · exact ⟨by rw [Cd.fp_secs], by simp⟩
theorem Cd.flush_len {D : Cd} : D.flush.1.secs.length = D.secs.length ∧ D.flush.1.waits.length ≤ D.waits.length := by
  unfold Cd.flush
  split
  · exact ⟨rfl, Nat.le_refl _⟩
  · split
    · exact ⟨by rw [Cd.fp_secs], by rw [Cd.fp_waits]; omega⟩
    · exact ⟨by rw [layW_len], by simp⟩
theorem Cd.crash_len {D : Cd} {ks : List Int} : (D.crash ks).secs.length = D.secs.length ∧ (D.crash ks).waits.length ≤ D.waits.length := ⟨by unfold Cd.crash; rw [tornW_len], by simp [Cd.crash]⟩
/-- A disk of one's own in a law that began at w0. -/
def CAt (w0 w : World) (g : Nat) (D : Cd) : Prop := ∃ F, CDk w F w0.heap.size g D ∧ Below w0.heap.size w0 w
section
variable {w0 w w1 : World} {g : Nat} {D : Cd}
theorem CAt.base (h : CAt w0 w g D) : Below w0.heap.size w0 w := h.choose_spec.2
theorem CAt.size (h : CAt w0 w g D) : w0.heap.size ≤ w.heap.size := h.base.size
theorem CAt.below (h : CAt w0 w g D) (hb : Below w.heap.size w w1) : CAt w0 w1 g D := by
  obtain ⟨F, h1, h2⟩ := h
  exact ⟨F, h1.below hb, h2.trans (hb.mono h2.size)⟩
theorem CAt.few (h : CAt w0 w g D) : D.secs.length ≤ 65536 := h.choose_spec.1.few
theorem CAt.wide (h : CAt w0 w g D) : ∀ s ∈ D.secs, s.length = 64 := h.choose_spec.1.wide
theorem CAt.wid (h : CAt w0 w g D) : ∀ x ∈ D.waits, x.2.length = 64 := h.choose_spec.1.wid
theorem CAt.inn (h : CAt w0 w g D) : ∀ x ∈ D.waits, x.1 < D.secs.length := h.choose_spec.1.inn
def CatN (w0 : World) (n : Int) (e : Ending) (w' : World) : Prop := (1 ≤ n ∧ n ≤ 65536 ∧ ∃ g, e = .returned (.tuple #[.pointer (some ⟨g, 0, none⟩), .int .i64 0]) ∧ CAt w0 w' g ⟨List.replicate n.toNat z64, [], true, -1⟩) ∨ (¬ (1 ≤ n ∧ n ≤ 65536) ∧ e = .returned (.tuple #[.pointer none, .int .i64 2]) ∧ Below w0.heap.size w0 w')
theorem cat_new (n : Int) (hb : Below w0.heap.size w0 w) : Calls Tryd.prog 23 #[.int .i64 n] w (CatN w0 n) :=
  (cnew_any n w).mono fun e w' h => by
    rcases h with ⟨h1, h2, F, g, he, hc, hw⟩ | ⟨h1, he, hw⟩
    · exact .inl ⟨h1, h2, g, he, F, hc.mono hb.size, hb.trans (hw.mono hb.size)⟩
    · exact .inr ⟨h1, he, hb.trans (hw.mono hb.size)⟩
/-- What a call that answers a number makes. -/
def CatR (w0 : World) (g : Nat) (r : Cd × Int) (e : Ending) (w' : World) : Prop := e = .returned (.int .i64 r.2) ∧ CAt w0 w' g r.1
theorem catR_of {F : Nat → Prop} {r : Cd × Int} (hb : Below w0.heap.size w0 w) (hF : ∀ k, F k → w0.heap.size ≤ k) {e : Ending} {w' : World} (h : CWriteR w F w0.heap.size g r e w') : CatR w0 g r e w' := by
  obtain ⟨F', h1, h2, h3, h4⟩ := h
  exact ⟨h2, F', h1, hb.trans (h3.below hb.size hF)⟩
/-- A write of bytes that came behind the disk. -/
theorem cat_write (at_ : Int) (h : CAt w0 w g D) (hb : Below w.heap.size w w1) {t : TypeId} {v : Value} {l : List UInt8} (ho : Ob w1 w.heap.size t v l) (hw : D.waits.length ≤ 1000000) :
    Calls Tryd.prog 12 #[.pointer (some ⟨g, 0, none⟩), .int .i64 at_, v] w1 (CatR w0 g (D.write at_ l)) := by
  obtain ⟨F, h1, h2⟩ := h
  obtain ⟨A, c, rfl, -, -, hr⟩ := ho.rd
  refine (cwrite_any w1 at_ (h1.below hb) hr (Nat.le_refl _) (fun ad e hF => ?_) hw).mono fun e w' h => catR_of (h2.trans (hb.mono h2.size)) (fun k hk => (h1.fit k hk).1) h
  subst e
  have h3 := (World.ownsRow.lt ho ad.block rfl).1
  have h4 := (h1.fit _ hF).2
  omega
theorem cat_write_nil (at_ : Int) (h : CAt w0 w g D) (hw : D.waits.length ≤ 1000000) : Calls Tryd.prog 12 #[.pointer (some ⟨g, 0, none⟩), .int .i64 at_, .slice none 0 0] w (CatR w0 g (D.write at_ [])) :=
  cat_write (t := 5) at_ h (Below.refl _ _) (Ob.nil_ _ _ _) hw
theorem cat_flush (h : CAt w0 w g D) (hw : D.waits.length ≤ 1000000) : Calls Tryd.prog 13 #[.pointer (some ⟨g, 0, none⟩)] w (CatR w0 g D.flush) := by
  obtain ⟨F, h1, h2⟩ := h
  exact (cflush_any w h1 hw).mono fun e w' h => catR_of h2 (fun k hk => (h1.fit k hk).1) h
/-- What Read answers, in a law. -/
def CatO (w0 w : World) (g : Nat) (D : Cd) (at_ : Int) (e : Ending) (w' : World) : Prop := CAt w0 w' g D ∧ Below w.heap.size w w' ∧
  ((D.power = false ∧ e = .returned (.tuple #[.slice none 0 0, .int .i64 131])) ∨ (D.power = true ∧ (at_ < 0 ∨ (D.secs.length : Int) ≤ at_) ∧ e = .returned (.tuple #[.slice none 0 0, .int .i64 130])) ∨
   (D.power = true ∧ 0 ≤ at_ ∧ at_ < (D.secs.length : Int) ∧ ∃ v l, (layW D.secs D.waits)[at_.toNat]? = some l ∧ e = .returned (.tuple #[v, .int .i64 0]) ∧ Ob w' w.heap.size 5 v l))
theorem cat_read (at_ : Int) (h : CAt w0 w g D) (hw : D.waits.length ≤ 1000000) : Calls Tryd.prog 14 #[.pointer (some ⟨g, 0, none⟩), .int .i64 at_] w (CatO w0 w g D at_) := by
  have h0 := h
  obtain ⟨F, h1, h2⟩ := h
  exact (dread_any w at_ h1 hw).mono fun e w' h => ⟨h0.below h.1, h.1, h.2⟩
theorem cat_crash {n c : Nat} {A : Option Addr} {ks : List Int} (h : CAt w0 w g D) (hw : D.waits.length ≤ 1000000) (hn : n = ks.length) (hk : 0 < n → ∃ b o, A = some ⟨b, o, none⟩ ∧ b < w0.heap.size ∧ ∀ j x, ks[j]? = some x → w0.cell? ⟨b, o + j, none⟩ = some (.int .i64 x)) :
    Calls Tryd.prog 30 #[.pointer (some ⟨g, 0, none⟩), .slice A n c] w fun e w' => e = .returned (.tuple #[]) ∧ CAt w0 w' g (D.crash ks) := by
  obtain ⟨F, h1, h2⟩ := h
  refine (ccrash_any w h1 hw hn (fun W hW hp => ?_)).mono fun e w' h => ⟨h.1, F, h.2.1, h2.trans (h.2.2.below h2.size (fun k hk => (h1.fit k hk).1))⟩
  obtain ⟨b, o, e, hb, hc⟩ := hk hp
  exact ⟨b, o, e, fun j x hx => ((h2.trans (hW.below h2.size (fun k hk => (h1.fit k hk).1))).cell (p := ⟨b, o + j, none⟩) hb).trans (hc j x hx)⟩
theorem cat_start (h : CAt w0 w g D) : Calls Tryd.prog 31 #[.pointer (some ⟨g, 0, none⟩)] w fun e w' => e = .returned (.tuple #[]) ∧ CAt w0 w' g { D with power := true, left := -1 } := by
  obtain ⟨F, h1, h2⟩ := h
  exact (cstart_any w h1).mono fun e w' h => ⟨h.1, F, h.2.1, h2.trans (h.2.2.below h2.size (fun k hk => (h1.fit k hk).1))⟩
theorem cat_arm (n : Int) (h : CAt w0 w g D) : Calls Tryd.prog 28 #[.pointer (some ⟨g, 0, none⟩), .int .i64 n] w fun e w' => e = .returned (.tuple #[]) ∧ CAt w0 w' g { D with left := n } := by
  obtain ⟨F, h1, h2⟩ := h
  exact (carm_any n w h1).mono fun e w' h => ⟨h.1, F, h.2.1, h2.trans (h.2.2.below h2.size (fun k hk => (h1.fit k hk).1))⟩
theorem cat_alive (h : CAt w0 w g D) : Calls Tryd.prog 29 #[.pointer (some ⟨g, 0, none⟩)] w fun e w' => e = .returned (.bool D.power) ∧ w = w' := calive_any w h.choose_spec.1
theorem cat_waiting (h : CAt w0 w g D) : Calls Tryd.prog 45 #[.pointer (some ⟨g, 0, none⟩)] w fun e w' => e = .returned (.int .i64 (D.waits.length : Int)) ∧ w = w' := cwaiting_any w h.choose_spec.1
theorem cat_sectors (h : CAt w0 w g D) : Calls Tryd.prog 44 #[.pointer (some ⟨g, 0, none⟩)] w fun e w' => e = .returned (.int .i64 (D.secs.length : Int)) ∧ w = w' := csectors_any w h.choose_spec.1
end
end Go.Proofs.YtahgaogmcffglaaDoor
/- Layer 15's reference: Least, Sizes. -/
namespace Go.Proofs.YtahgaogmcffglaaDoor
open Go.RowKit

set_option maxRecDepth 100000 in
set_option maxHeartbeats 4000000 in
theorem rleast_any (n : Nat) (w : World) (hn : n ≤ 100000) :
    Calls Tryd.prog 20 #[.int .i64 (n : Int)] w fun e w' => e = .returned (.int .i64 (64 * ((n / 2 : Nat) : Int) - 128)) ∧ w = w' := by
  obtain ⟨m, hm⟩ : ∃ m, m = n / 2 := ⟨_, rfl⟩
  have e1 : (n : Int).tdiv 2 = (m : Int) := by rw [Int.tdiv_eq_ediv_of_nonneg (by omega)]; omega
  have e2 : (n : Int) / 2 = (m : Int) := by omega
  have w1 : wrap64 (m : Int) = (m : Int) := by unfold wrap64; omega
  have w2 : IntKind.i64.wrap (64 * (m : Int)) = 64 * (m : Int) := by rw [IntKind.wrap_i64]; omega
  have w3 : IntKind.i64.wrap (64 * (m : Int) - 128) = 64 * (m : Int) - 128 := by rw [IntKind.wrap_i64]; omega
  rw [← hm]
  clear hm hn
  go_enter Tryd.func20, Tryd.ntmps20
  go_wp2_with fail
  go_ret
  exact ⟨rfl, rfl⟩

set_option maxRecDepth 100000 in
set_option maxHeartbeats 8000000 in
theorem rsizes_any (A : Option Addr) (n c B : Nat) (l : List Rcd) (w : World) (h : RwC w B A n l) (hB : B ≤ w.heap.size) (hn : n ≤ 1099511627776) :
    Calls Tryd.prog 27 #[.slice A n c] w fun e w' => e = .returned (.int .i64 (szL l)) ∧ Below w.heap.size w w' := by
  have HR := Lib.hid h
  have HBB := Lib.hid hB
  have HN := Lib.hid hn
  have HLN : Hid (l.length = n) := h.1
  clear h hB
  go_enter Tryd.func27, Tryd.ntmps27
  go_wp2_with fail
  go_loopw [2, 3, 4] (fun v2 v3 v4 wr => ∃ i : Nat, i ≤ n ∧ v2 = .int .i64 0 ∧ v3 = .int .i64 (sumL (l.take i) : Int) ∧ v4 = .int .i64 (i : Int) ∧ Hid (Below w.heap.size w wr) ∧ Hid (∀ r ∈ l.take i, rokR r = true)) (fun _ _ v4 _ => n - (intOf v4).toNat)
  case atStart => exact ⟨0, Nat.zero_le _, rfl, rfl, rfl, Below.refl _ _, fun r hr => absurd hr (by simp)⟩
  case round =>
    obtain ⟨i, hi, rfl, rfl, rfl, HW, HO⟩ := hrel
    by_cases hlt : i < n
    · obtain ⟨b, o, rfl, hb, hx⟩ := HR.out.2 (by omega)
      have hil : i < l.length := by rw [HLN.out]; exact hlt
      obtain ⟨Ad, nd, cd, g0, g1, -, g3, g4⟩ := hx.get hil
      obtain ⟨r, hr⟩ : ∃ r, r = l[i]'hil := ⟨_, rfl⟩
      rw [← hr] at g0 g4
      have HRK : Hid (l[i]? = some r) := by show _ = _; rw [hr]; exact List.getElem?_eq_getElem hil
      have hbw : b < w.heap.size := by have := HBB.out; omega
      have x0 := (HW.out.cell (p := ⟨b, o + i * 2, none⟩) hbw).trans g0
      have x1 := (HW.out.cell (p := ⟨b, o + i * 2 + 1, none⟩) hbw).trans g1
      have HI : (i : Int) < (n : Int) := by omega
      have CZ := Lib.hid (rsize_any r.typ Ad nd cd r.dat wr g4.1 g3)
      unfold recV at CZ
      rw [show (⟨r.typ, r.dat⟩ : Rcd) = r from rfl] at CZ
      have HD : Hid (r.dat.length = nd) := g4.1
      have EB : Hid (sumL (l.take i) ≤ 8199 * i) := by
        show _ ≤ _
        have h1 := sumL_bd (l.take i) HO.out
        rw [List.length_take] at h1
        exact Nat.le_trans h1 (Nat.mul_le_mul_left _ (Nat.min_le_left _ _))
      clear hb hx g0 g1 g3 g4 hr hil hbw
      cases hrk : rokR r with
      | false =>
        rw [hrk, if_neg (by decide)] at CZ
        have HZ : Hid (szL l = -1) := szL_no (List.mem_of_getElem? HRK.out) hrk
        clear hrk
        go_wp2_with fail
        refine CZ.out.mono ?_
        rintro e w2 ⟨rfl, hb2⟩
        have B2 := Lib.hid (HW.out.trans (hb2.mono HW.out.size))
        clear hb2 x0 x1
        go_wp2_with fail
        go_ret
        exact ⟨by rw [HZ.out]; rfl, B2.out⟩
      | true =>
        rw [hrk, if_pos rfl] at CZ
        have h8 := (rokR_iff.1 hrk).2.2
        have ES : Hid (sumL (l.take (i + 1)) = sumL (l.take i) + (nd + 7)) := by show _ = _; rw [sumL_take HRK.out, HD.out]
        have HRK2 := Lib.hid hrk
        obtain ⟨S, hS⟩ : ∃ S, S = sumL (l.take i) := ⟨_, rfl⟩
        rw [← hS] at ES EB ⊢
        have hne : (((nd : Int) + 7) == 0) = false := by rw [beq_eq_false_iff_ne]; omega
        have wS : IntKind.i64.wrap ((S : Int) + ((nd : Int) + 7)) = (S : Int) + ((nd : Int) + 7) := by rw [IntKind.wrap_i64]; have := EB.out; have := HN.out; have := HD.out; omega
        have w1 : IntKind.i64.wrap ((i : Int) + 1) = (i : Int) + 1 := by rw [IntKind.wrap_i64]; have := HN.out; omega
        clear hrk h8 hS
        go_wp2_with fail
        refine CZ.out.mono ?_
        rintro e w2 ⟨rfl, hb2⟩
        have B2 := Lib.hid (HW.out.trans (hb2.mono HW.out.size))
        clear hb2 x0 x1
        go_wp2_with fail
        go_roundw
        case rel =>
          refine ⟨i + 1, by omega, rfl, ?_, by go_num, B2.out, fun q hq => ?_⟩
          · rw [ES.out]
            simp [Int.natCast_add]
          · rw [List.take_add_one, HRK.out] at hq
            rcases List.mem_append.1 hq with hq | hq
            · exact HO.out q hq
            · obtain rfl : q = r := by simpa using hq
              exact HRK2.out
        case measure => simp [intOf]; omega
    · have hin : i = n := by omega
      subst hin
      have hlt2 : ¬ (i : Int) < (i : Int) := by omega
      have HZ : Hid (szL l = (sumL (l.take i) : Int)) := by
        show _ = _
        have e : l.take i = l := List.take_of_length_le (by rw [HLN.out]; exact Nat.le_refl _)
        rw [e]
        refine szL_ok fun r hr => HO.out r ?_
        rw [e]
        exact hr
      go_wp2_with fail
      go_ret
      exact ⟨by rw [HZ.out]; rfl, HW.out⟩
end Go.Proofs.YtahgaogmcffglaaDoor
/- Layer 15's reference: Copy. (Made by gen/WlC.py.) -/
namespace Go.Proofs.YtahgaogmcffglaaDoor
open Go.RowKit

/-- append of one record, as a step. -/
theorem step_appR {w : World} {ops : Array Oper} {o : Oper} {a : Act} {K : Act → World → Prop} {Q : Exit → Act → World → Prop} {E : Prop} (hgd : o.guard = none) (s x : Operand)
    (ho : o.op = .call { callee := .builtin .append, args := #[s, x], argTypes := #[29, 29] })
    (base : Nat) (v : Value) (qs : List QR) (hs : a.eval s = v) (hown : ScS w base v qs) (b c : Nat) (q : QR) (hx : a.eval x = .slice (some ⟨b, 0, none⟩) 1 c) (hu0 : w.cell? ⟨b, 0, none⟩ = some (.int .i64 q.1.typ)) (hu1 : w.cell? ⟨b, 1, none⟩ = some (.slice q.2.1 q.2.2.1 q.2.2.2))
    (hlen : qs.length + 1 ≤ 4398046511104) (hbase : base ≤ w.heap.size) (hq : Ob w base 5 (.slice q.2.1 q.2.2.1 q.2.2.2) q.1.dat ∧ q.1.dat.length ≤ 8192)
    (h : ∀ v' w', ScS w' base v' (qs ++ [q]) → Below base w w' → K (a.put o.dst v') w') : if Region.wanted o (yielded ops a.tmps) = true then Oper.wp Tryd.prog o a w K Q else E := by
  have hw : Region.wanted o (yielded ops a.tmps) = true := by simp [Region.wanted, hgd]
  rw [if_pos hw]
  obtain ⟨i, hi, hi0, hi1, hi2⟩ := info_parts info_rec14
  obtain ⟨v', w', hrun, h2, h3, -, -⟩ := run_append_own_at (P := Tryd.prog) w base 29 o.type 35 i (.agg #[.int .i64 0, .slice none 0 0]) 2 32 Tryd.underlying29 hi hi0 hi1 hi2 rfl (by decide) v qs.length (flatQ qs) hown.1 ⟨b, 0, none⟩ 1 c [.int .i64 q.1.typ, .slice q.2.1 q.2.2.1 q.2.2.2] rfl (fun j u' hj => by
    rw [add_mk14]
    match j, hj with
    | 0, hj =>
      simp at hj
      subst hj
      exact hu0
    | 1, hj =>
      simp at hj
      subst hj
      exact hu1
    | j + 2, hj => simp at hj) (fun u' hu' => by
    simp at hu'
    rcases hu' with rfl | rfl <;> rfl) (by unfold maxLen; omega) (by omega) hbase
  unfold Oper.wp execOp
  simp only [ho, resolve, invoke, builtin, Sem.run_bind, Sem.run_pure, Result.andThen_ok, List.map_toArray, List.map_cons, List.map_nil, hs, hx, hrun]
  refine h v' w' ⟨?_, ?_⟩ ⟨h3.os, h3.tape, h3.output, h3.size, fun k hk => h3.block k (by omega) (fun e => by have := (World.ownsRow.lt hown.1 k e.symm).1; omega)⟩
  · rw [flatQ_snoc, List.length_append, List.length_singleton]
    exact h2
  · have hk : ∀ y : QR, Ob w base 5 (.slice y.2.1 y.2.2.1 y.2.2.2) y.1.dat → Ob w' base 5 (.slice y.2.1 y.2.2.1 y.2.2.2) y.1.dat := fun y hy => by
      refine hy.kept h3 ?_
      rcases hown.1.2 with ⟨hv, -⟩ | ⟨g, cap, cur, hv, -, hg, -⟩
      · rw [hv]
        show _ ∨ _ ≠ (none : Option Nat)
        cases (Value.slice y.2.1 y.2.2.1 y.2.2.2).ownBlock with
        | none => exact .inl rfl
        | some g' => exact .inr (by simp)
      · exact .inr (by rw [hv]; exact hy.not_at14 hg (by decide))
    intro y hy
    rcases List.mem_append.1 hy with hy | hy
    · exact ⟨hk y (hown.2 y hy).1, (hown.2 y hy).2⟩
    · obtain rfl := List.mem_singleton.1 hy
      exact ⟨hk _ hq.1, hq.2⟩

/-- What Copy answers. -/
def CpyR (l : List Rcd) (w : World) (e : Ending) (w' : World) : Prop := Below w.heap.size w w' ∧ ∃ v qs, e = .returned v ∧ ScS w' w.heap.size v qs ∧ qs.map (·.1) = l
set_option maxRecDepth 100000 in
set_option maxHeartbeats 16000000 in
theorem rcopy_any (A : Option Addr) (n c B : Nat) (l : List Rcd) (w : World) (h : RwC w B A n l) (hB : B ≤ w.heap.size) (hn : n ≤ 1099511627776) (hd : ∀ r ∈ l, r.dat.length ≤ 8192) :
    Calls Tryd.prog 25 #[.slice A n c] w (CpyR l w) := by
  have HR := Lib.hid h
  have HBB := Lib.hid hB
  have HN := Lib.hid hn
  have HDS := Lib.hid hd
  have HLN : Hid (l.length = n) := h.1
  clear h hB hd
  go_enter Tryd.func25, Tryd.ntmps25
  go_wp2_with fail
  go_loopw [3, 4] (fun v3 v4 wr => ∃ (i : Nat) (qs : List QR), i ≤ n ∧ v4 = .int .i64 (i : Int) ∧ qs.length = i ∧ Hid (ScS wr w.heap.size v3 qs ∧ Below w.heap.size w wr) ∧ Hid (qs.map (·.1) = l.take i)) (fun _ v4 _ => n - (intOf v4).toNat)
  case atStart => exact ⟨0, [], Nat.zero_le _, rfl, rfl, ⟨⟨World.ownsRow_nil _ _ _ _, fun q hq => absurd hq (by simp)⟩, Below.refl _ _⟩, by show _ = _; simp⟩
  case round =>
    obtain ⟨i, qs, hi, rfl, hql, HS, HQ⟩ := hrel
    have HQL := Lib.hid hql
    clear hql
    by_cases hlt : i < n
    · obtain ⟨b, o, rfl, hb, hx⟩ := HR.out.2 (by omega)
      have hil : i < l.length := by rw [HLN.out]; exact hlt
      obtain ⟨Ad, nd, cd, g0, g1, -, g3, g4⟩ := hx.get hil
      obtain ⟨r, hr⟩ : ∃ r, r = l[i]'hil := ⟨_, rfl⟩
      rw [← hr] at g0 g4
      have HRK : Hid (l[i]? = some r) := by show _ = _; rw [hr]; exact List.getElem?_eq_getElem hil
      have hbw : b < w.heap.size := by have := HBB.out; omega
      have KX : Hid (∀ W, Below w.heap.size w W → W.cell? ⟨b, o + i * 2, none⟩ = some (.int .i64 r.typ) ∧ W.cell? ⟨b, o + i * 2 + 1, none⟩ = some (.slice Ad nd cd)) := fun W hW' => by
        exact ⟨(hW'.cell (p := ⟨b, o + i * 2, none⟩) hbw).trans g0, (hW'.cell (p := ⟨b, o + i * 2 + 1, none⟩) hbw).trans g1⟩
      have RX : Hid (∀ W, Below w.heap.size w W → Rd W B Ad nd r.dat) := fun W hW => g4.below (hW.mono HBB.out)
      have HI : (i : Int) < (n : Int) := by omega
      have h0i : (0 : Int) ≤ (i : Int) := by omega
      have HD : Hid (r.dat.length = nd) := g4.1
      have H8 : Hid (nd ≤ 8192) := by show _ ≤ _; have := HDS.out r (List.mem_of_getElem? HRK.out); have := HD.out; omega
      have w1 : IntKind.i64.wrap ((i : Int) + 1) = (i : Int) + 1 := by rw [IntKind.wrap_i64]; have := HN.out; omega
      clear hb hx g0 g1 g3 g4 hr hil hbw
      go_upto_region 5 with fail
      refine wp_region_held_drew (S := fun W => Below w.heap.size w W) (by kernel_rfl) HS.out.2.drew (fun hHeld => ?_)
      refine takeR (i := 0) (v := ?v0_1) rfl (by kernel_rfl) (by kernel_rfl) (by kernel_rfl) (fun _ _ _ h => h) (by rfl) ?hy0_1 (by assumption) ?rest0_1
      case hy0_1 => (intro W hSw; obtain ⟨q0, q1⟩ := KX.out W hSw; go_simp; try with_reducible rfl)
      try simp only [Act.put]
      try simp only [List.setIfInBounds_toArray]
      try simp only [List.set_cons_succ]
      try simp only [List.set_cons_zero]
      refine takeR (i := 1) (v := ?v1_2) rfl (by kernel_rfl) (by kernel_rfl) (by kernel_rfl) (fun _ _ _ h => h) (by rfl) ?hy1_2 (by assumption) ?rest1_2
      case hy1_2 => (intro W hSw; obtain ⟨q0, q1⟩ := KX.out W hSw; go_simp; try with_reducible rfl)
      try simp only [Act.put]
      try simp only [List.setIfInBounds_toArray]
      try simp only [List.set_cons_succ]
      try simp only [List.set_cons_zero]
      refine takeR (i := 2) (v := ?v2_3) rfl (by kernel_rfl) (by kernel_rfl) (by kernel_rfl) (fun _ _ _ h => h) (by rfl) ?hy2_3 (by assumption) ?rest2_3
      case hy2_3 => (intro W hSw; obtain ⟨q0, q1⟩ := KX.out W hSw; go_simp; try with_reducible rfl)
      try simp only [Act.put]
      try simp only [List.setIfInBounds_toArray]
      try simp only [List.set_cons_succ]
      try simp only [List.set_cons_zero]
      refine takeR (i := 3) (v := ?v3_4) rfl (by kernel_rfl) (by kernel_rfl) (by kernel_rfl) (fun _ _ _ h => h) (by rfl) ?hy3_4 (by assumption) ?rest3_4
      case hy3_4 => (intro W hSw; obtain ⟨q0, q1⟩ := KX.out W hSw; go_simp; try with_reducible rfl)
      try simp only [Act.put]
      try simp only [List.setIfInBounds_toArray]
      try simp only [List.set_cons_succ]
      try simp only [List.set_cons_zero]
      refine takeR (i := 4) (v := ?v4_5) rfl (by kernel_rfl) (by kernel_rfl) (by kernel_rfl) (fun _ _ _ h => h) (by rfl) ?hy4_5 (by assumption) ?rest4_5
      case hy4_5 => (intro W hSw; obtain ⟨q0, q1⟩ := KX.out W hSw; go_simp; try with_reducible rfl)
      try simp only [Act.put]
      try simp only [List.setIfInBounds_toArray]
      try simp only [List.set_cons_succ]
      try simp only [List.set_cons_zero]
      refine takeR (i := 5) (v := ?v5_6) rfl (by kernel_rfl) (by kernel_rfl) (by kernel_rfl) (fun _ _ _ h => h) (by rfl) ?hy5_6 (by assumption) ?rest5_6
      case hy5_6 => (intro W hSw; obtain ⟨q0, q1⟩ := KX.out W hSw; go_simp; try with_reducible rfl)
      try simp only [Act.put]
      try simp only [List.setIfInBounds_toArray]
      try simp only [List.set_cons_succ]
      try simp only [List.set_cons_zero]
      refine takeR (i := 7) (v := ?v7_7) rfl (by kernel_rfl) (by kernel_rfl) (by kernel_rfl) (fun _ _ _ h => h) (by rfl) ?hy7_7 (by assumption) ?rest7_7
      case hy7_7 => (intro W hSw; obtain ⟨q0, q1⟩ := KX.out W hSw; go_simp; try with_reducible rfl)
      try simp only [Act.put]
      try simp only [List.setIfInBounds_toArray]
      try simp only [List.set_cons_succ]
      try simp only [List.set_cons_zero]
      refine takeR (i := 8) (v := ?v8_8) rfl (by kernel_rfl) (by kernel_rfl) (by kernel_rfl) (fun _ _ _ h => h) (by rfl) ?hy8_8 (by assumption) ?rest8_8
      case hy8_8 => (intro W hSw; obtain ⟨q0, q1⟩ := KX.out W hSw; go_simp; try with_reducible rfl)
      try simp only [Act.put]
      try simp only [List.setIfInBounds_toArray]
      try simp only [List.set_cons_succ]
      try simp only [List.set_cons_zero]
      refine takeR (i := 9) (v := ?v9_9) rfl (by kernel_rfl) (by kernel_rfl) (by kernel_rfl) (fun _ _ _ h => h) (by rfl) ?hy9_9 (by assumption) ?rest9_9
      case hy9_9 => (intro W hSw; obtain ⟨q0, q1⟩ := KX.out W hSw; go_simp; try with_reducible rfl)
      try simp only [Act.put]
      try simp only [List.setIfInBounds_toArray]
      try simp only [List.set_cons_succ]
      try simp only [List.set_cons_zero]
      refine takeR (i := 10) (v := ?v10_10) rfl (by kernel_rfl) (by kernel_rfl) (by kernel_rfl) (fun _ _ _ h => h) (by rfl) ?hy10_10 (by assumption) ?rest10_10
      case hy10_10 => (intro W hSw; obtain ⟨q0, q1⟩ := KX.out W hSw; go_simp; try with_reducible rfl)
      try simp only [Act.put]
      try simp only [List.setIfInBounds_toArray]
      try simp only [List.set_cons_succ]
      try simp only [List.set_cons_zero]
      refine takeR (i := 11) (v := ?v11_11) rfl (by kernel_rfl) (by kernel_rfl) (by kernel_rfl) (fun _ _ _ h => h) (by rfl) ?hy11_11 (by assumption) ?rest11_11
      case hy11_11 => (intro W hSw; obtain ⟨q0, q1⟩ := KX.out W hSw; go_simp; try with_reducible rfl)
      try simp only [Act.put]
      try simp only [List.setIfInBounds_toArray]
      try simp only [List.set_cons_succ]
      try simp only [List.set_cons_zero]
      have BT : Hid (Below wr.heap.size wr wr.drew) := (Below.refl _ _).drew
      have SW : Hid (ScS wr.drew w.heap.size u3 qs) := HS.out.1.below (Below.refl _ _).drew
      clear hHeld
      obtain ⟨wc, hwc⟩ : ∃ wc, wc = wr.drew := ⟨_, rfl⟩
      rw [← hwc] at BT SW
      rw [← hwc]
      clear hwc
      refine wpAnyH_ready (rs := [6]) (by kernel_rfl) (by simp) ?_
      refine AllReadyH.cons rfl (fun K hK => ?_) AllReadyH.nil
      rw [if_pos (by rfl)]
      go_simp
      obtain ⟨wd, hwd⟩ : ∃ wd, wd = wc.alloc (.cells #[] 5) := ⟨_, rfl⟩
      have bd : Below wc.heap.size wc wd := by rw [hwd]; exact (Below.refl _ _).alloc (Nat.le_refl _) _
      have BD : Hid (Below wr.heap.size wr wd) := BT.out.trans (bd.mono BT.out.size)
      have OD : Hid (Ob wd wc.heap.size 5 (.slice (some ⟨wc.heap.size, 0, none⟩) 0 0) []) := by show Ob _ _ _ _ _; rw [hwd]; exact Ob.lit wc [] #[] rfl (Nat.le_refl _) 0 rfl (by decide)
      have SD := Lib.hid (SW.out.below bd)
      have D2 := Lib.hid bd
      rw [← hwd]
      refine hK.out _ _ (HS.out.2.trans (BD.out.mono HS.out.2.size)) (fun hHeld => ?_)
      try simp only [Act.put]
      try simp only [List.setIfInBounds_toArray]
      try simp only [List.set_cons_succ]
      try simp only [List.set_cons_zero]
      clear hK K hwd bd hHeld
      refine wpAnyH_ready (rs := [12]) (by kernel_rfl) (by simp) ?_
      refine AllReadyH.cons rfl (fun K hK => ?_) AllReadyH.nil
      refine step_appG (by rfl) (.tmp 17) (.tmp 22) 33 (by rfl) wc.heap.size 5 Tryd.underlying33 info_u8 _ [] (by rfl) OD.out _ Ad nd cd r.dat (by rfl) (RX.out wd (HS.out.2.trans (BD.out.mono HS.out.2.size))) (by have := H8.out; simp only [List.length_nil]; omega) D2.out.size ?_
      intro v9 w9 ho9 hg9
      rw [List.nil_append] at ho9
      have d9 : Below wc.heap.size wc w9 := grown_trans hg9 OD.out D2.out
      have B9 : Hid (Below wr.heap.size wr w9) := BT.out.trans (d9.mono BT.out.size)
      have S9 := Lib.hid (SW.out.below d9)
      obtain ⟨A9, c9, rfl, -, -, -⟩ := ho9.rd
      have O9 : Hid (Ob w9 w.heap.size 5 (.slice A9 r.dat.length c9) r.dat) := ho9.wide (Nat.le_trans HS.out.2.size BT.out.size)
      rw [HD.out] at O9
      rw [HD.out]
      clear ho9 hg9 d9
      show K (Act.put _ (some 23) (.slice A9 nd c9)) w9
      refine hK.out _ _ (HS.out.2.trans (B9.out.mono HS.out.2.size)) (fun hHeld => ?_)
      try simp only [Act.put]
      try simp only [List.setIfInBounds_toArray]
      try simp only [List.set_cons_succ]
      try simp only [List.set_cons_zero]
      clear hK K
      refine takeR (i := 13) (v := ?v13_12) rfl (by kernel_rfl) (by kernel_rfl) (by kernel_rfl) (fun _ _ _ h => h) (by rfl) ?hy13_12 (by assumption) ?rest13_12
      case hy13_12 => (intro W hSw; go_simp; try with_reducible rfl)
      try simp only [Act.put]
      try simp only [List.setIfInBounds_toArray]
      try simp only [List.set_cons_succ]
      try simp only [List.set_cons_zero]
      clear hHeld
      refine wpAnyH_ready (rs := [14]) (by kernel_rfl) (by simp) ?_
      refine AllReadyH.cons rfl (fun K hK => ?_) AllReadyH.nil
      rw [if_pos (by rfl)]
      go_simp
      obtain ⟨we, hwe⟩ : ∃ we, we = w9.alloc (.cells #[.int .i64 r.typ, .slice A9 nd c9] 35) := ⟨_, rfl⟩
      have be9 : Below w9.heap.size w9 we := by rw [hwe]; exact (Below.refl _ _).alloc (Nat.le_refl _) _
      have ke : we.heap[w9.heap.size]? = some (.cells #[.int .i64 r.typ, .slice A9 nd c9] 35 (0, 0)) := by rw [hwe]; exact heap_alloc_new w9 _
      obtain ⟨⟨y0, y1⟩, -, -⟩ := row2 ke
      have Y0 := Lib.hid y0
      have Y1 := Lib.hid y1
      have BE : Hid (Below wr.heap.size wr we) := B9.out.trans (be9.mono B9.out.size)
      have SE := Lib.hid (S9.out.below be9)
      have OE := Lib.hid (O9.out.below be9)
      rw [← hwe]
      refine hK.out _ _ (HS.out.2.trans (BE.out.mono HS.out.2.size)) (fun hHeld => ?_)
      try simp only [Act.put]
      try simp only [List.setIfInBounds_toArray]
      try simp only [List.set_cons_succ]
      try simp only [List.set_cons_zero]
      clear hK K hwe be9 ke y0 y1 hHeld
      refine wpAnyH_ready (rs := [15]) (by kernel_rfl) (by simp) ?_
      refine AllReadyH.cons rfl (fun K hK => ?_) AllReadyH.nil
      refine step_appR (by rfl) (.tmp 11) (.tmp 25) (by rfl) w.heap.size _ qs (by rfl) SE.out w9.heap.size 1 (⟨r.typ, r.dat⟩, A9, nd, c9) (by rfl) Y0.out Y1.out (by have := HQL.out; have := HN.out; omega) (Nat.le_trans HS.out.2.size BE.out.size) ⟨OE.out, by show r.dat.length ≤ _; rw [HD.out]; exact H8.out⟩ ?_
      intro vf wf hsf hbf
      have SF := Lib.hid hsf
      have BWF : Hid (Below w.heap.size w wf) := (HS.out.2.trans (BE.out.mono HS.out.2.size)).trans hbf
      show K (Act.put _ (some 26) vf) wf
      refine hK.out _ _ BWF.out (fun hHeld => ?_)
      try simp only [Act.put]
      try simp only [List.setIfInBounds_toArray]
      try simp only [List.set_cons_succ]
      try simp only [List.set_cons_zero]
      clear hK K hsf hbf
      refine takeR (i := 16) (v := ?v16_13) rfl (by kernel_rfl) (by kernel_rfl) (by kernel_rfl) (fun _ _ _ h => h) (by rfl) ?hy16_13 (by assumption) ?rest16_13
      case hy16_13 => (intro W hSw; go_simp; try with_reducible rfl)
      try simp only [Act.put]
      try simp only [List.setIfInBounds_toArray]
      try simp only [List.set_cons_succ]
      try simp only [List.set_cons_zero]
      refine wpAnyH_done (by kernel_rfl) ?_ _
      go_wp2_with fail
      go_roundw
      case rel =>
        refine ⟨i + 1, qs ++ [(⟨r.typ, r.dat⟩, A9, nd, c9)], by omega, by go_num, by rw [List.length_append, HQL.out]; rfl, ⟨SF.out, BWF.out⟩, ?_⟩
        show _ = _
        rw [List.map_append, HQ.out, List.take_add_one, HRK.out]
        rfl
      case measure => simp [intOf]; omega
    · have hin : i = n := by omega
      have hlt2 : ¬ (i : Int) < (n : Int) := by omega
      have HE : Hid (qs.map (·.1) = l) := by show _ = _; rw [HQ.out]; exact List.take_of_length_le (by rw [HLN.out]; omega)
      go_wp2_with fail
      go_ret
      exact ⟨HS.out.2, _, qs, rfl, HS.out.1, HE.out⟩
end Go.Proofs.YtahgaogmcffglaaDoor
/- Rows of records of the call's own, whose bytes are its own or came in; append of one more. -/
namespace Go.Proofs.YtahgaogmcffglaaDoor
open Go.RowKit

/-- A record's bytes: the call's own, or such as lay below block base. -/
def ByG (w : World) (base : Nat) (q : QR) : Prop := Ob w base 5 (.slice q.2.1 q.2.2.1 q.2.2.2) q.1.dat ∨ (q.2.2.1 ≤ q.2.2.2 ∧ Rd w base q.2.1 q.2.2.1 q.1.dat)
/-- A row of records of the call's own. -/
def ScG (w : World) (base : Nat) (v : Value) (qs : List QR) : Prop := w.ownsRow base 35 2 v qs.length (flatQ qs) ∧ ∀ q ∈ qs, ByG w base q ∧ q.1.dat.length ≤ 8192
theorem ScS.g {w : World} {base : Nat} {v : Value} {qs : List QR} (h : ScS w base v qs) : ScG w base v qs := ⟨h.1, fun q hq => ⟨.inl (h.2 q hq).1, (h.2 q hq).2⟩⟩
theorem ByG.below {w w' : World} {base : Nat} {q : QR} (h : ByG w base q) (hb : Below w.heap.size w w') (hB : base ≤ w.heap.size) : ByG w' base q := by
  rcases h with h | ⟨h1, h2⟩
  · exact .inl (h.below hb)
  · exact .inr ⟨h1, h2.below (hb.mono hB)⟩
theorem ScG.below {w w' : World} {base : Nat} {v : Value} {qs : List QR} (h : ScG w base v qs) (hb : Below w.heap.size w w') (hB : base ≤ w.heap.size) : ScG w' base v qs :=
  ⟨World.ownsRow.kept h.1 (row := none) ⟨hb.os, hb.tape, hb.output, hb.size, fun k hk _ => hb.block k hk⟩ (by cases v.ownBlock <;> simp), fun q hq => ⟨(h.2 q hq).1.below hb hB, (h.2 q hq).2⟩⟩
/-- It reads as its records. -/
theorem ScG.rw {w : World} {base : Nat} {v : Value} {qs : List QR} (h : ScG w base v qs) (hB : base ≤ w.heap.size) : ∃ A c, v = .slice A qs.length c ∧ qs.length ≤ c ∧ RwC w w.heap.size A qs.length (qs.map (·.1)) := by
  rcases h.1.2 with ⟨hv, h0⟩ | ⟨g, cap, cur, hv, hbg, hg, hn, hm, -⟩
  · exact ⟨none, 0, by rw [hv, h0], by omega, by rw [List.length_map], fun h1 => by omega⟩
  · refine ⟨some ⟨g, 0, none⟩, cap, hv, hn, by rw [List.length_map], fun _ => ⟨g, 0, rfl, (Array.getElem?_eq_some_iff.1 hg).1, fun i r hi => ?_⟩⟩
    rw [List.getElem?_map] at hi
    obtain ⟨q, hq, rfl⟩ := Option.map_eq_some_iff.1 hi
    obtain ⟨h1, h2⟩ := flatQ_at qs i q hq
    have c1 := World.ownsRow.cells h.1 (g := g) (by rw [hv]; rfl) _ _ h1
    have c2 := World.ownsRow.cells h.1 (g := g) (by rw [hv]; rfl) _ _ h2
    rw [add_mk14] at c1 c2
    have hq' := h.2 q (List.mem_of_getElem? hq)
    have hl : q.1.dat.length = q.2.2.1 ∧ q.2.2.1 ≤ q.2.2.2 ∧ Rd w w.heap.size q.2.1 q.2.2.1 q.1.dat := by
      rcases hq'.1 with ho | ⟨k1, k2⟩
      · exact ⟨ho.rd_.1, ho.rd_.2.2.1, ho.rd_.2.1⟩
      · exact ⟨k2.1, k1, k2.more hB⟩
    refine ⟨q.2.1, q.2.2.1, q.2.2.2, c1, by rw [← Nat.add_assoc] at c2; exact c2, hl.2.1, ?_, hl.2.2⟩
    rw [← hl.1]
    exact Nat.le_trans hq'.2 (by decide)

/-- append of one record, as a step. -/
theorem step_appRG {w : World} {ops : Array Oper} {o : Oper} {a : Act} {K : Act → World → Prop} {Q : Exit → Act → World → Prop} {E : Prop} (hgd : o.guard = none) (s x : Operand)
    (ho : o.op = .call { callee := .builtin .append, args := #[s, x], argTypes := #[29, 29] })
    (base : Nat) (v : Value) (qs : List QR) (hs : a.eval s = v) (hown : ScG w base v qs) (b c : Nat) (q : QR) (hx : a.eval x = .slice (some ⟨b, 0, none⟩) 1 c) (hu0 : w.cell? ⟨b, 0, none⟩ = some (.int .i64 q.1.typ)) (hu1 : w.cell? ⟨b, 1, none⟩ = some (.slice q.2.1 q.2.2.1 q.2.2.2))
    (hlen : qs.length + 1 ≤ 4398046511104) (hbase : base ≤ w.heap.size) (hq : ByG w base q ∧ q.1.dat.length ≤ 8192)
    (h : ∀ v' w', ScG w' base v' (qs ++ [q]) → Below base w w' → K (a.put o.dst v') w') : if Region.wanted o (yielded ops a.tmps) = true then Oper.wp Tryd.prog o a w K Q else E := by
  have hw : Region.wanted o (yielded ops a.tmps) = true := by simp [Region.wanted, hgd]
  rw [if_pos hw]
  obtain ⟨i, hi, hi0, hi1, hi2⟩ := info_parts info_rec14
  obtain ⟨v', w', hrun, h2, h3, -, -⟩ := run_append_own_at (P := Tryd.prog) w base 29 o.type 35 i (.agg #[.int .i64 0, .slice none 0 0]) 2 32 Tryd.underlying29 hi hi0 hi1 hi2 rfl (by decide) v qs.length (flatQ qs) hown.1 ⟨b, 0, none⟩ 1 c [.int .i64 q.1.typ, .slice q.2.1 q.2.2.1 q.2.2.2] rfl (fun j u' hj => by
    rw [add_mk14]
    match j, hj with
    | 0, hj =>
      simp at hj
      subst hj
      exact hu0
    | 1, hj =>
      simp at hj
      subst hj
      exact hu1
    | j + 2, hj => simp at hj) (fun u' hu' => by
    simp at hu'
    rcases hu' with rfl | rfl <;> rfl) (by unfold maxLen; omega) (by omega) hbase
  unfold Oper.wp execOp
  simp only [ho, resolve, invoke, builtin, Sem.run_bind, Sem.run_pure, Result.andThen_ok, List.map_toArray, List.map_cons, List.map_nil, hs, hx, hrun]
  have hbl : Below base w w' := ⟨h3.os, h3.tape, h3.output, h3.size, fun k hk => h3.block k (by omega) (fun e => by have := (World.ownsRow.lt hown.1 k e.symm).1; omega)⟩
  refine h v' w' ⟨?_, ?_⟩ hbl
  · rw [flatQ_snoc, List.length_append, List.length_singleton]
    exact h2
  · have hk : ∀ y : QR, ByG w base y → ByG w' base y := fun y hy => by
      rcases hy with hy | ⟨k1, k2⟩
      · refine .inl (hy.kept h3 ?_)
        rcases hown.1.2 with ⟨hv, -⟩ | ⟨g, cap, cur, hv, -, hg, -⟩
        · rw [hv]
          show _ ∨ _ ≠ (none : Option Nat)
          cases (Value.slice y.2.1 y.2.2.1 y.2.2.2).ownBlock with
          | none => exact .inl rfl
          | some g' => exact .inr (by simp)
        · exact .inr (by rw [hv]; exact hy.not_at14 hg (by decide))
      · exact .inr ⟨k1, k2.below hbl⟩
    intro y hy
    rcases List.mem_append.1 hy with hy | hy
    · exact ⟨hk y (hown.2 y hy).1, (hown.2 y hy).2⟩
    · obtain rfl := List.mem_singleton.1 hy
      exact ⟨hk _ hq.1, hq.2⟩
end Go.Proofs.YtahgaogmcffglaaDoor
