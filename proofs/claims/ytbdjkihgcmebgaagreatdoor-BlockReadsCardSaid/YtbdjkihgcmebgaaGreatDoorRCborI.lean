/- Items in memory: a value that reads as an item ('RdI'), the elements of a list that do ('RdIs'). -/
import Derived.Test.YtbdjkihgcmebgaaGreatDoorRBase
import Derived.Test.YtbdjkihgcmebgaaGreatDoorRCborM
namespace Go.Proofs.YtbdjkihgcmebgaaGreatDoor
open Go.RowKit

mutual
/-- The value v reads as the item x; what it leads to lies below block B. -/
def RdI (w : World) (B : Nat) (v : Value) : Itm → Prop
  | .mk k n d l => ∃ (A : Option Addr) (nd cd : Nat) (AL : Option Addr) (nl cl : Nat), v = .agg #[.int .i64 k, .int .u64 (n : Int), .slice A nd cd, .slice AL nl cl] ∧
      (Lit.int .i64 k).wf = true ∧ n < 18446744073709551616 ∧ (nd ≤ cd ∧ nd ≤ 140737488355328) ∧ Rd w B A nd d ∧ (nl ≤ cl ∧ nl ≤ 140737488355328) ∧ l.length = nl ∧ (0 < nl → ∃ b o, AL = some ⟨b, o, none⟩ ∧ b < B ∧ RdIs w B b o l)
/-- From the place o of block b on the items l lie, four cells each. -/
def RdIs (w : World) (B b o : Nat) : List Itm → Prop
  | [] => True
  | x :: r => (∃ c0 c1 c2 c3 : Value, w.cell? ⟨b, o, none⟩ = some c0 ∧ w.cell? ⟨b, o + 1, none⟩ = some c1 ∧ w.cell? ⟨b, o + 2, none⟩ = some c2 ∧ w.cell? ⟨b, o + 3, none⟩ = some c3 ∧ RdI w B (.agg #[c0, c1, c2, c3]) x) ∧ RdIs w B b (o + 4) r
end

mutual
theorem RdI.keep {w w' : World} {B : Nat} (hk : ∀ p : Addr, p.block < B → w'.cell? p = w.cell? p) : ∀ {x : Itm} {v : Value}, RdI w B v x → RdI w' B v x
  | .mk k n d l, v, h => by
    rw [RdI] at h ⊢
    obtain ⟨A, nd, cd, AL, nl, cl, e, h1, h2, h3, h4, h5, h6, h7⟩ := h
    refine ⟨A, nd, cd, AL, nl, cl, e, h1, h2, h3, h4.keep hk, h5, h6, fun h0 => ?_⟩
    obtain ⟨b, o, ea, hb, hs⟩ := h7 h0
    exact ⟨b, o, ea, hb, RdIs.keep hk hb hs⟩
theorem RdIs.keep {w w' : World} {B : Nat} (hk : ∀ p : Addr, p.block < B → w'.cell? p = w.cell? p) {b : Nat} (hb : b < B) : ∀ {l : List Itm} {o : Nat}, RdIs w B b o l → RdIs w' B b o l
  | [], o, _ => by rw [RdIs]; trivial
  | x :: r, o, h => by
    rw [RdIs] at h ⊢
    obtain ⟨⟨c0, c1, c2, c3, g0, g1, g2, g3, gx⟩, hr⟩ := h
    exact ⟨⟨c0, c1, c2, c3, (hk ⟨b, o, none⟩ hb).trans g0, (hk ⟨b, o + 1, none⟩ hb).trans g1, (hk ⟨b, o + 2, none⟩ hb).trans g2, (hk ⟨b, o + 3, none⟩ hb).trans g3, RdI.keep hk gx⟩, RdIs.keep hk hb hr⟩
end
mutual
theorem RdI.more {w : World} {B B' : Nat} (hB : B ≤ B') : ∀ {x : Itm} {v : Value}, RdI w B v x → RdI w B' v x
  | .mk k n d l, v, h => by
    rw [RdI] at h ⊢
    obtain ⟨A, nd, cd, AL, nl, cl, e, h1, h2, h3, h4, h5, h6, h7⟩ := h
    refine ⟨A, nd, cd, AL, nl, cl, e, h1, h2, h3, h4.more hB, h5, h6, fun h0 => ?_⟩
    obtain ⟨b, o, ea, hb, hs⟩ := h7 h0
    exact ⟨b, o, ea, by omega, RdIs.more hB hs⟩
theorem RdIs.more {w : World} {B B' : Nat} (hB : B ≤ B') {b : Nat} : ∀ {l : List Itm} {o : Nat}, RdIs w B b o l → RdIs w B' b o l
  | [], o, _ => by rw [RdIs]; trivial
  | x :: r, o, h => by
    rw [RdIs] at h ⊢
    obtain ⟨⟨c0, c1, c2, c3, g0, g1, g2, g3, gx⟩, hr⟩ := h
    exact ⟨⟨c0, c1, c2, c3, g0, g1, g2, g3, RdI.more hB gx⟩, RdIs.more hB hr⟩
end
section
variable {w w' : World} {B B' b : Nat} {v : Value} {x : Itm} {l : List Itm} {o : Nat}
theorem RdI.below (h : RdI w B v x) (hb : Below B w w') : RdI w' B v x := h.keep fun _ hp => hb.cell hp
theorem RdIs.below (h : RdIs w B b o l) (h0 : b < B) (hb : Below B w w') : RdIs w' B b o l := h.keep (fun _ hp => hb.cell hp) h0
theorem RdI.alloc (h : RdI w B v x) (hB : B ≤ w.heap.size) (ob : Obj) : RdI (w.alloc ob) B v x := h.keep fun p hp => World.cell?_alloc_lt w ob p (by omega)
/-- The items of a list: the i-th. -/
theorem RdIs.get : ∀ {l : List Itm} {o : Nat}, RdIs w B b o l → ∀ i (hi : i < l.length), ∃ c0 c1 c2 c3 : Value, w.cell? ⟨b, o + i * 4, none⟩ = some c0 ∧ w.cell? ⟨b, o + i * 4 + 1, none⟩ = some c1 ∧ w.cell? ⟨b, o + i * 4 + 2, none⟩ = some c2 ∧ w.cell? ⟨b, o + i * 4 + 3, none⟩ = some c3 ∧ RdI w B (.agg #[c0, c1, c2, c3]) (l[i]'hi)
  | [], o, _, i, hi => absurd hi (Nat.not_lt_zero _)
  | x :: r, o, h, 0, hi => by
    rw [RdIs] at h
    simpa using h.1
  | x :: r, o, h, i + 1, hi => by
    rw [RdIs] at h
    have := RdIs.get h.2 i (by simpa using hi)
    rw [show o + (i + 1) * 4 = o + 4 + i * 4 by omega]
    simpa using this
theorem RdIs.of_get : ∀ {l : List Itm} {o : Nat}, (∀ i (hi : i < l.length), ∃ c0 c1 c2 c3 : Value, w.cell? ⟨b, o + i * 4, none⟩ = some c0 ∧ w.cell? ⟨b, o + i * 4 + 1, none⟩ = some c1 ∧ w.cell? ⟨b, o + i * 4 + 2, none⟩ = some c2 ∧ w.cell? ⟨b, o + i * 4 + 3, none⟩ = some c3 ∧ RdI w B (.agg #[c0, c1, c2, c3]) (l[i]'hi)) → RdIs w B b o l
  | [], o, _ => by rw [RdIs]; trivial
  | x :: r, o, h => by
    rw [RdIs]
    have h0 := h 0 (by simp)
    rw [Nat.zero_mul, Nat.add_zero] at h0
    refine ⟨h0, RdIs.of_get fun i hi => ?_⟩
    have := h (i + 1) (by simpa using hi)
    rw [show o + (i + 1) * 4 = o + 4 + i * 4 by omega] at this
    simpa using this
end
/-- An item's list, as a walk wants it. -/
theorem RdI.open {w : World} {B : Nat} {v : Value} {k : Int} {n : Nat} {d : List UInt8} {l : List Itm} (h : RdI w B v (.mk k n d l)) :
    ∃ (A : Option Addr) (nd cd : Nat) (AL : Option Addr) (cl : Nat), v = .agg #[.int .i64 k, .int .u64 (n : Int), .slice A nd cd, .slice AL l.length cl] ∧
      (Lit.int .i64 k).wf = true ∧ n < 18446744073709551616 ∧ (nd ≤ cd ∧ nd ≤ 140737488355328) ∧ Rd w B A nd d ∧ (l.length ≤ cl ∧ l.length ≤ 140737488355328) ∧ (0 < l.length → ∃ b o, AL = some ⟨b, o, none⟩ ∧ b < B ∧ RdIs w B b o l) := by
  rw [RdI] at h
  obtain ⟨A, nd, cd, AL, nl, cl, e, h1, h2, h3, h4, h5, h6, h7⟩ := h
  subst h6
  exact ⟨A, nd, cd, AL, cl, e, h1, h2, h3, h4, h5, h7⟩
theorem RdI.form {w : World} {B : Nat} {v : Value} {x : Itm} (h : RdI w B v x) : ∃ (k : Int) (n : Nat) (A : Option Addr) (nd cd : Nat) (AL : Option Addr) (nl cl : Nat), v = .agg #[.int .i64 k, .int .u64 (n : Int), .slice A nd cd, .slice AL nl cl] := by
  obtain ⟨k, n, d, l⟩ := x
  obtain ⟨A, nd, cd, AL, cl, rfl, -, -, -, -, -, -⟩ := h.open
  exact ⟨_, _, _, _, _, _, _, _, rfl⟩
theorem par_get : ∀ {l : List Itm} {i : Nat} (hi : i < l.length), par (l[i]'hi) ≤ pars l
  | [], _, hi => absurd hi (Nat.not_lt_zero _)
  | x :: r, 0, _ => by rw [pars]; simp
  | x :: r, i + 1, hi => by
    have := par_get (l := r) (i := i) (by simpa using hi)
    rw [pars]
    simp
    omega
mutual
theorem RdI.siz {w : World} {B : Nat} : ∀ {x : Itm} {v : Value}, RdI w B v x → Siz x
  | .mk k n d l, v, h => by
    rw [RdI] at h
    obtain ⟨A, nd, cd, AL, nl, cl, e, h1, h2, h3, h4, h5, h6, h7⟩ := h
    have hd := h4.1
    refine ⟨h2, by omega, by omega, ?_⟩
    rcases Nat.eq_zero_or_pos nl with h0 | h0
    · have : l = [] := List.eq_nil_of_length_eq_zero (by omega)
      subst this; trivial
    · obtain ⟨b, o, ea, hb, hs⟩ := h7 h0
      exact RdIs.siz hs
theorem RdIs.siz {w : World} {B b : Nat} : ∀ {l : List Itm} {o : Nat}, RdIs w B b o l → Sizs l
  | [], _, _ => trivial
  | x :: r, o, h => by
    rw [RdIs] at h
    obtain ⟨⟨c0, c1, c2, c3, g0, g1, g2, g3, gx⟩, hr⟩ := h
    exact ⟨RdI.siz gx, RdIs.siz hr⟩
end
end Go.Proofs.YtbdjkihgcmebgaaGreatDoor
