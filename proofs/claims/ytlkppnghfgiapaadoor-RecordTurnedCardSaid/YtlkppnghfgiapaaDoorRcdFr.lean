/- Numbers and rows of records that come in as arguments, opened. -/
import Derived.Test.YtlkppnghfgiapaaDoorRecO
import Derived.Deep.Slices
import Derived.ChangeArms
import Derived.ChangeSlices
namespace Go.Proofs.YtlkppnghfgiapaaDoor
open Go.RowKit Go.ChangeShapes Go.WideShapes

theorem nat_u64_14 {a : Int} (h : (Lit.int .u64 a).wf = true) : ∃ q : Nat, a = (q : Int) ∧ q < 18446744073709551616 := by
  have hb : 0 ≤ a ∧ a < 18446744073709551616 := by
    simp [Lit.wf, IntKind.min, IntKind.max, IntKind.signed, IntKind.bits] at h
    omega
  exact ⟨a.toNat, by omega, by omega⟩
/-- A slice of n records that came in. -/
def RwA (w : World) (A : Option Addr) (n : Nat) (l : List Rcd) : Prop := l.length = n ∧ (0 < n → ∃ b o, A = some ⟨b, o, none⟩ ∧ b < w.heap.size ∧ ∀ i r, l[i]? = some r → ∃ Ad nd cd, w.cell? ⟨b, o + i * 2, none⟩ = some (.int .i64 r.typ) ∧ w.cell? ⟨b, o + i * 2 + 1, none⟩ = some (.slice Ad nd cd) ∧ nd ≤ cd ∧ Rd w w.heap.size Ad nd r.dat)
theorem RwA.nil_ {w : World} : RwA w none 0 [] := ⟨rfl, fun h => absurd h (Nat.lt_irrefl 0)⟩
theorem RwA.rw {w : World} {A : Option Addr} {n : Nat} {l : List Rcd} (h : RwA w A n l) (hd : ∀ r ∈ l, r.dat.length ≤ 300) : l.length = n ∧ (0 < n → ∃ b o, A = some ⟨b, o, none⟩ ∧ b < w.heap.size ∧ RdC w w.heap.size b o l) := by
  refine ⟨h.1, fun h0 => ?_⟩
  obtain ⟨b, o, hA, hb, hx⟩ := h.2 h0
  refine ⟨b, o, hA, hb, fun i r hi => ?_⟩
  obtain ⟨Ad, nd, cd, h1, h2, h3, h4⟩ := hx i r hi
  refine ⟨Ad, nd, cd, h1, h2, h3, ?_, h4⟩
  have := hd r (List.mem_of_getElem? hi)
  have := h4.1
  omega
set_option maxRecDepth 100000 in
/-- A record that came in, by its cells. -/
theorem open_rec {H : Type} {enc : TypeId × Value → H} {w : World} {base : Nat} {spare : Nat → Bool} {held : Bool} {fuel : Nat} {cs : List Value} {x : DataW H × List MemPlace}
    (h : DataW.trod enc Tryd.prog w base spare held fuel 25 cs = some x) : ∃ (t : Int) (A : Option Addr) (n c : Nat) (d : List UInt8), cs = [.int .i64 t, .slice A n c] ∧ (Lit.int .i64 t).wf = true ∧ n ≤ c ∧ n ≤ maxLen ∧ Rd w w.heap.size A n d := by
  obtain ⟨xs, k', -, -, hl2, hlx, hfs⟩ := DataW.trod_struct Tryd.underlying25 h
  rw [cellsRec.1] at hl2
  match cs, hl2 with
  | [v0, v1], _ =>
    obtain ⟨t, A, n, c, d, rfl, rfl, h1, h2, h3, h4⟩ := open_rec_cells h
    exact ⟨t, A, n, c, d, rfl, h1, h2, h3, h4⟩
instance : Inhabited Rcd := ⟨Rcd.zero⟩
/-- A row of records that came in. -/
theorem open_recs {H : Type} {enc : TypeId × Value → H} {w : World} {base : Nat} {spare : Nat → Bool} {held : Bool} {fuel : Nat} {A : Option Addr} {n c : Nat} {x : DataW H × List MemPlace}
    (h : DataW.trod enc Tryd.prog w base spare held fuel 39 [.slice A n c] = some x) : n ≤ c ∧ ∃ l, RwA w A n l := by
  rcases Deep.open_slice Tryd.underlying39 h with ⟨h0, -⟩ | ⟨a, len, cap, m, k, D, Pl, h0, -, hl, -, hm, -, hx⟩
  · simp at h0
    obtain ⟨rfl, rfl, rfl⟩ := h0
    exact ⟨Nat.le_refl _, [], RwA.nil_⟩
  · simp at h0
    obtain ⟨rfl, rfl, rfl⟩ := h0
    refine ⟨hl, ?_⟩
    have hlm : n ≤ m := by rw [hm]; split <;> omega
    obtain ⟨ce, ci, cb⟩ := cellsRec
    have each : ∀ i, i < n → ∃ r : Rcd, ∃ Ad nd cd, w.cell? (a.add (i * 2)) = some (.int .i64 r.typ) ∧ w.cell? (a.add (i * 2 + 1)) = some (.slice Ad nd cd) ∧ nd ≤ cd ∧ Rd w w.heap.size Ad nd r.dat := by
      intro i hi
      obtain ⟨cs', h1, h2⟩ := hx i (by omega)
      rw [ce] at h1
      obtain ⟨_, hlen, hcell⟩ := World.cells?_some h1
      match cs', hlen with
      | [v0, v1], _ =>
        obtain ⟨t, A1, n1, c1, d, rfl, rfl, -, hnc, -, hr⟩ := open_rec_cells h2
        refine ⟨⟨t, d⟩, A1, n1, c1, ?_, ?_, hnc, hr⟩
        · have q := hcell 0 (by decide)
          rw [Deep.add_add] at q
          simpa using q
        · have q := hcell 1 (by decide)
          rw [Deep.add_add] at q
          simpa using q
    obtain ⟨q, hq⟩ := Deep.choose_lt each
    refine ⟨(List.range n).map q, by simp, fun h0 => ?_⟩
    obtain ⟨b, o, spot⟩ := a
    obtain ⟨Ad0, nd0, cd0, k0, -⟩ := hq 0 h0
    have hs : spot = none := by simpa [Addr.add] using World.cell?_spot k0
    subst hs
    refine ⟨b, o, rfl, ?_, fun i r hi => ?_⟩
    · rw [add_mk14] at k0
      exact World.block_lt_of_cell? w _ k0
    · have hin : i < n := by
        rcases Nat.lt_or_ge i n with h | h
        · exact h
        · rw [List.getElem?_eq_none (by simpa using h)] at hi; cases hi
      rw [List.getElem?_map, List.getElem?_range hin] at hi
      obtain rfl : q i = r := Option.some.inj hi
      obtain ⟨Ad, nd, cd, k1, k2, k3, k4⟩ := hq i hin
      rw [add_mk14] at k1 k2
      exact ⟨Ad, nd, cd, k1, by rw [Nat.add_assoc]; exact k2, k3, k4⟩
end Go.Proofs.YtlkppnghfgiapaaDoor
