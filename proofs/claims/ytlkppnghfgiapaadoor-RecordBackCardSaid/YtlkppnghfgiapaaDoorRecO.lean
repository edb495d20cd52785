/- Records that lie in memory, and that come in. -/
import Derived.Test.YtlkppnghfgiapaaDoorRecM
import Derived.Test.YtlkppnghfgiapaaDoorOwn
import Derived.Deep.Slices
import Derived.ChangeArms
import Derived.ChangeSlices
import Derived.OpenShut
namespace Go.Proofs.YtlkppnghfgiapaaDoor
open Go.RowKit Go.ChangeShapes Go.WideShapes

theorem add_mk14 (b o j : Nat) : (⟨b, o, none⟩ : Addr).add j = ⟨b, o + j, none⟩ := by unfold Addr.add; split <;> simp_all
/-- A record's value. -/
def recV (t : Int) (A : Option Addr) (n c : Nat) : Value := .agg #[.int .i64 t, .slice A n c]
/-- Records in a row, two cells each: what they read as lies below block B. -/
def RdC (w : World) (B b o : Nat) (l : List Rcd) : Prop := ∀ i r, l[i]? = some r → ∃ Ad nd cd, w.cell? ⟨b, o + i * 2, none⟩ = some (.int .i64 r.typ) ∧ w.cell? ⟨b, o + i * 2 + 1, none⟩ = some (.slice Ad nd cd) ∧ nd ≤ cd ∧ nd ≤ 140737488355328 ∧ Rd w B Ad nd r.dat
theorem RdC.nil_ {w : World} {B b o : Nat} : RdC w B b o [] := fun i r h => by simp at h
theorem RdC.keep {w w' : World} {B b o : Nat} {l : List Rcd} (h : RdC w B b o l) (hb : b < B) (hk : ∀ p : Addr, p.block < B → w'.cell? p = w.cell? p) : RdC w' B b o l := fun i r hr => by
  obtain ⟨Ad, nd, cd, h1, h2, h3, h4, h5⟩ := h i r hr
  exact ⟨Ad, nd, cd, (hk ⟨b, o + i * 2, none⟩ hb).trans h1, (hk ⟨b, o + i * 2 + 1, none⟩ hb).trans h2, h3, h4, h5.keep hk⟩
theorem RdC.below {w w' : World} {B b o : Nat} {l : List Rcd} (h : RdC w B b o l) (hb : b < B) (hB : Below B w w') : RdC w' B b o l := h.keep hb fun _ hp => hB.cell hp
theorem RdC.more {w : World} {B B' b o : Nat} {l : List Rcd} (h : RdC w B b o l) (hB : B ≤ B') : RdC w B' b o l := fun i r hr => by
  obtain ⟨Ad, nd, cd, h1, h2, h3, h4, h5⟩ := h i r hr
  exact ⟨Ad, nd, cd, h1, h2, h3, h4, h5.more hB⟩
theorem RdC.get {w : World} {B b o : Nat} {l : List Rcd} (h : RdC w B b o l) {i : Nat} (hi : i < l.length) : ∃ Ad nd cd, w.cell? ⟨b, o + i * 2, none⟩ = some (.int .i64 (l[i]'hi).typ) ∧ w.cell? ⟨b, o + i * 2 + 1, none⟩ = some (.slice Ad nd cd) ∧ nd ≤ cd ∧ nd ≤ 140737488355328 ∧ Rd w B Ad nd (l[i]'hi).dat := h i _ (List.getElem?_eq_getElem hi)
theorem RdC.snoc {w : World} {B b o : Nat} {l : List Rcd} {r : Rcd} {Ad : Option Addr} {nd cd : Nat} (h : RdC w B b o l) (h1 : w.cell? ⟨b, o + l.length * 2, none⟩ = some (.int .i64 r.typ)) (h2 : w.cell? ⟨b, o + l.length * 2 + 1, none⟩ = some (.slice Ad nd cd)) (h3 : nd ≤ cd) (h4 : nd ≤ 140737488355328) (h5 : Rd w B Ad nd r.dat) : RdC w B b o (l ++ [r]) := fun i q hq => by
  rcases Nat.lt_or_ge i l.length with hi | hi
  · rw [List.getElem?_append_left hi] at hq; exact h i q hq
  · rw [List.getElem?_append_right hi] at hq
    have hi0 : i - l.length = 0 := by
      rcases Nat.eq_zero_or_pos (i - l.length) with e | e
      · exact e
      · rw [List.getElem?_eq_none (by simp; omega)] at hq; cases hq
    rw [hi0] at hq
    obtain rfl : r = q := Option.some.inj hq
    obtain rfl : i = l.length := by omega
    exact ⟨Ad, nd, cd, h1, h2, h3, h4, h5⟩
theorem cellsRec : Tryd.prog.cellsOf 25 = 2 ∧ Tryd.prog.cellsOf 3 = 1 ∧ Tryd.prog.cellsOf 23 = 1 := ⟨by kernel_rfl, by kernel_rfl, by kernel_rfl⟩
/-- A record's two cells, as they come in. -/
theorem open_rec_cells {H : Type} {enc : TypeId × Value → H} {w : World} {base : Nat} {spare : Nat → Bool} {held : Bool} {fuel : Nat} {v0 v1 : Value} {x : DataW H × List MemPlace}
    (h : DataW.trod enc Tryd.prog w base spare held fuel 25 [v0, v1] = some x) : ∃ (t : Int) (A : Option Addr) (n c : Nat) (d : List UInt8), v0 = .int .i64 t ∧ v1 = .slice A n c ∧ (Lit.int .i64 t).wf = true ∧ n ≤ c ∧ n ≤ maxLen ∧ Rd w w.heap.size A n d := by
  obtain ⟨ce, ci, cb⟩ := cellsRec
  obtain ⟨xs, k', -, -, hl2, hlx, hfs⟩ := DataW.trod_struct Tryd.underlying25 h
  obtain ⟨y0, y1, rfl⟩ : ∃ y0 y1, xs = [y0, y1] := by
    match xs, hlx with
    | [y0, y1], _ => exact ⟨y0, y1, rfl⟩
  have g0 := hfs 0 _ rfl
  have g1 := hfs 1 _ rfl
  clear hfs
  simp [ci, cb] at g0 g1
  obtain ⟨z0, e0, -, w0⟩ := DataW.trod_int Tryd.underlying3 g0
  simp only [List.cons.injEq, and_true] at e0
  subst e0
  rcases open_ints Tryd.underlying23 Tryd.underlying5 (by kernel_rfl) g1 with ⟨hcs, _⟩ | ⟨x, l, c, zs, hcs, _, hlc, hm, hz, hd, hcell, hwz⟩
  · simp only [List.cons.injEq, and_true] at hcs
    exact ⟨z0, none, 0, 0, [], rfl, hcs, w0, Nat.le_refl _, by decide, Rd.nil_⟩
  · simp only [List.cons.injEq, and_true] at hcs
    have hlz : l ≤ zs.length := by rw [hz]; split <;> omega
    exact ⟨z0, some x, l, c, _, rfl, hcs, w0, hlc, Nat.le_trans hlc hm, Rd.of_ints (c := zs.length) hlz rfl hcell hwz⟩
end Go.Proofs.YtlkppnghfgiapaaDoor
