/- Sum of parts that a statement lays (layer 7, without its statements' heads). -/
import Derived.Test.YtllodapnbdbpeaaShaK
namespace Go.Proofs.Ytllodapnbdbpeaa
open Go.RowKit

/-- The same where nothing may be left. -/
theorem cut_lh2 {P : Program} {w : World} {B n : Nat} {A : Option Addr} {l : List UInt8} (t e : TypeId) (ht : P.underlying t = some (.slice e)) (hz : ∀ W : World, (sizeOf e).run P W = .ok 1 W) (c : Nat) (h : Rd w B A n l) (x y : Int) (i j : Nat) (hx : x = (i : Int)) (hy : y = (j : Int)) (hij : i ≤ j) (hj : j ≤ n) (hc : n ≤ c) :
    ∃ A' c', (∀ W : World, (Instr.slice t (.slice A n c) (some (.int .i64 x)) (some (.int .i64 y)) none).run P W = .ok (.slice A' (j - i) c') W) ∧ j - i ≤ c' ∧ c' ≤ c ∧ Rd w B A' (j - i) ((l.drop i).take (j - i)) := by
  subst hx hy
  have h2 : j ≤ c := by omega
  by_cases hci : c = i
  · have hji : j = i := by omega
    have e0 : j - i = 0 := by omega
    refine ⟨A, c - i, fun W => ?_, by omega, by omega, ?_⟩
    · subst hji hci
      go_simp
    · rw [e0, List.take_zero]
      exact Rd.nil_
  · refine ⟨A.map (·.add i), c - i, fun W => ?_, by omega, by omega, h.mid hij hj⟩
    go_simp

theorem ptsF_lit (W : World) (t : TypeId) (ps : List Pt) (cs : Array Value) (hcs : cs = (ps.map fun p => Value.slice p.A p.n p.c).toArray) (n : Nat) (hn : ps.length = n) (h : ∀ p ∈ ps, Rd W W.heap.size p.A p.n p.l ∧ p.n ≤ p.c ∧ p.c ≤ 9223372036854775807) :
    PtsF (W.alloc (.cells cs t)) (· < (W.alloc (.cells cs t)).heap.size) (some ⟨W.heap.size, 0, none⟩) n ps := by
  subst hcs
  refine ⟨hn, fun _ => ⟨W.heap.size, 0, rfl, by simp, fun i p hp => ?_⟩, fun p hp => ⟨?_, (h p hp).2⟩⟩
  · simp only [World.cell?, Nat.zero_add]
    rw [heap_alloc_new]
    simp [hp]
  · exact ((h p hp).1.alloc (Nat.le_refl _) _).rdF (fun b hb => by simp; omega)

theorem catP_one (p : Pt) : catP [p] = p.l := by simp [catP]
theorem catP_two (p q : Pt) : catP [p, q] = p.l ++ q.l := by simp [catP]
theorem catP_three (p q r : Pt) : catP [p, q, r] = p.l ++ q.l ++ r.l := by simp [catP]

theorem sum1_any (A : Option Addr) (n c : Nat) (l : List UInt8) (W : World) (h : Rd W W.heap.size A n l) (hc : n ≤ c) (hc2 : c ≤ 9223372036854775807) (hz : l.length ≤ 549755813888) :
    Calls Try.prog 26 #[.slice (some ⟨W.heap.size, 0, none⟩) 1 1] (W.alloc (.cells #[.slice A n c] 22)) (GivesO 5 (shaL l) (W.alloc (.cells #[.slice A n c] 22))) := by
  have hp := ptsF_lit W 22 [⟨A, n, c, l⟩] #[.slice A n c] rfl 1 rfl (fun p hp => by rw [List.mem_singleton.1 hp]; exact ⟨h, hc, hc2⟩)
  have := csum_any _ 1 1 _ _ hp (by rw [catP_one]; exact hz) (by decide)
  rwa [catP_one] at this
theorem sum2_any (A A' : Option Addr) (n c n' c' : Nat) (l l' : List UInt8) (W : World) (h : Rd W W.heap.size A n l) (hc : n ≤ c) (hc2 : c ≤ 9223372036854775807) (h' : Rd W W.heap.size A' n' l') (hc' : n' ≤ c') (hc2' : c' ≤ 9223372036854775807) (hz : (l ++ l').length ≤ 549755813888) :
    Calls Try.prog 26 #[.slice (some ⟨W.heap.size, 0, none⟩) 2 2] (W.alloc (.cells #[.slice A n c, .slice A' n' c'] 22)) (GivesO 5 (shaL (l ++ l')) (W.alloc (.cells #[.slice A n c, .slice A' n' c'] 22))) := by
  have hp := ptsF_lit W 22 [⟨A, n, c, l⟩, ⟨A', n', c', l'⟩] #[.slice A n c, .slice A' n' c'] rfl 2 rfl (fun p hp => by
    simp only [List.mem_cons, List.not_mem_nil, or_false] at hp
    rcases hp with rfl | rfl
    · exact ⟨h, hc, hc2⟩
    · exact ⟨h', hc', hc2'⟩)
  have := csum_any _ 2 2 _ _ hp (by rw [catP_two]; exact hz) (by decide)
  rwa [catP_two] at this
theorem sum3_any (A A' A2 : Option Addr) (n c n' c' n2 c2 : Nat) (l l' l2 : List UInt8) (W : World) (h : Rd W W.heap.size A n l ∧ n ≤ c ∧ c ≤ 9223372036854775807) (h' : Rd W W.heap.size A' n' l' ∧ n' ≤ c' ∧ c' ≤ 9223372036854775807) (h2 : Rd W W.heap.size A2 n2 l2 ∧ n2 ≤ c2 ∧ c2 ≤ 9223372036854775807) (hz : (l ++ l' ++ l2).length ≤ 549755813888) :
    Calls Try.prog 26 #[.slice (some ⟨W.heap.size, 0, none⟩) 3 3] (W.alloc (.cells #[.slice A n c, .slice A' n' c', .slice A2 n2 c2] 22)) (GivesO 5 (shaL (l ++ l' ++ l2)) (W.alloc (.cells #[.slice A n c, .slice A' n' c', .slice A2 n2 c2] 22))) := by
  have hp := ptsF_lit W 22 [⟨A, n, c, l⟩, ⟨A', n', c', l'⟩, ⟨A2, n2, c2, l2⟩] #[.slice A n c, .slice A' n' c', .slice A2 n2 c2] rfl 3 rfl (fun p hp => by
    simp only [List.mem_cons, List.not_mem_nil, or_false] at hp
    rcases hp with rfl | rfl | rfl
    · exact h
    · exact h'
    · exact h2)
  have := csum_any _ 3 3 _ _ hp (by rw [catP_three]; exact hz) (by decide)
  rwa [catP_three] at this

theorem shaL_length (l : List UInt8) : (shaL l).length = 32 := by
  have e : ∀ L : List (BitVec 32), (outL L).length = 4 * L.length := fun L => by
    induction L with
    | nil => rfl
    | cons y t ih => rw [show outL (y :: t) = be y.toNat 4 ++ outL t from rfl, List.length_append, be_length, ih, List.length_cons]; omega
  exact e _
end Go.Proofs.Ytllodapnbdbpeaa
