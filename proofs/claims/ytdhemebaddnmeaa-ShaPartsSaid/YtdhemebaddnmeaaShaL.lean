/- What must come at any rate ('heads' of layer 7's statements): true. And Sum of parts that a statement lays. -/
import Derived.Test.YtdhemebaddnmeaaShaK
namespace Go.Proofs.Ytdhemebaddnmeaa
open Go.RowKit

/-- The same where nothing may be left. -/
theorem cut_lh2 {P : Program} {w : World} {B n : Nat} {A : Option Addr} {l : List UInt8} (t e : TypeId) (ht : P.underlying t = some (.slice e)) (hz : ∀ W : World, (sizeOf e).run P W = .ok 1 W) (c : Nat) (h : Rd w B A n l) (x y : Int) (i j : Nat) (hx : x = (i : Int)) (hy : y = (j : Int)) (hij : i ≤ j) (hj : j ≤ n) (hc : n ≤ c) :
    ∃ A' c', (∀ W : World, (Instr.slice t (.slice A n c) (some (.int .i64 x)) (some (.int .i64 y)) none).run P W = .ok (.slice A' (j - i) c') W) ∧ j - i ≤ c' ∧ c' ≤ c ∧ Rd w B A' (j - i) ((l.drop i).take (j - i)) := by
  subst hx hy
  have h2 : j ≤ c := by omega
  by_cases hci : c = i
  · have hji : j = i := by omega
    have e0 : j - i = 0 := by omega
    refine ⟨A, c - i, fun W => ?_, by omega, by omega, ?_⟩
    · subst hji hci
      go_simp
    · rw [e0, List.take_zero]
      exact Rd.nil_
  · refine ⟨A.map (·.add i), c - i, fun W => ?_, by omega, by omega, h.mid hij hj⟩
    go_simp

theorem ptsF_lit (W : World) (t : TypeId) (ps : List Pt) (cs : Array Value) (hcs : cs = (ps.map fun p => Value.slice p.A p.n p.c).toArray) (n : Nat) (hn : ps.length = n) (h : ∀ p ∈ ps, Rd W W.heap.size p.A p.n p.l ∧ p.n ≤ p.c ∧ p.c ≤ 9223372036854775807) :
    PtsF (W.alloc (.cells cs t)) (· < (W.alloc (.cells cs t)).heap.size) (some ⟨W.heap.size, 0, none⟩) n ps := by
  subst hcs
  refine ⟨hn, fun _ => ⟨W.heap.size, 0, rfl, by simp, fun i p hp => ?_⟩, fun p hp => ⟨?_, (h p hp).2⟩⟩
  · simp only [World.cell?, Nat.zero_add]
    rw [heap_alloc_new]
    simp [hp]
  · exact ((h p hp).1.alloc (Nat.le_refl _) _).rdF (fun b hb => by simp; omega)

theorem catP_one (p : Pt) : catP [p] = p.l := by simp [catP]
theorem catP_two (p q : Pt) : catP [p, q] = p.l ++ q.l := by simp [catP]
theorem catP_three (p q r : Pt) : catP [p, q, r] = p.l ++ q.l ++ r.l := by simp [catP]

theorem sum1_any (A : Option Addr) (n c : Nat) (l : List UInt8) (W : World) (h : Rd W W.heap.size A n l) (hc : n ≤ c) (hc2 : c ≤ 9223372036854775807) (hz : l.length ≤ 549755813888) :
    Calls Try.prog 12 #[.slice (some ⟨W.heap.size, 0, none⟩) 1 1] (W.alloc (.cells #[.slice A n c] 22)) (GivesO 5 (shaL l) (W.alloc (.cells #[.slice A n c] 22))) := by
  have hp := ptsF_lit W 22 [⟨A, n, c, l⟩] #[.slice A n c] rfl 1 rfl (fun p hp => by rw [List.mem_singleton.1 hp]; exact ⟨h, hc, hc2⟩)
  have := csum_any _ 1 1 _ _ hp (by rw [catP_one]; exact hz) (by decide)
  rwa [catP_one] at this
theorem sum2_any (A A' : Option Addr) (n c n' c' : Nat) (l l' : List UInt8) (W : World) (h : Rd W W.heap.size A n l) (hc : n ≤ c) (hc2 : c ≤ 9223372036854775807) (h' : Rd W W.heap.size A' n' l') (hc' : n' ≤ c') (hc2' : c' ≤ 9223372036854775807) (hz : (l ++ l').length ≤ 549755813888) :
    Calls Try.prog 12 #[.slice (some ⟨W.heap.size, 0, none⟩) 2 2] (W.alloc (.cells #[.slice A n c, .slice A' n' c'] 22)) (GivesO 5 (shaL (l ++ l')) (W.alloc (.cells #[.slice A n c, .slice A' n' c'] 22))) := by
  have hp := ptsF_lit W 22 [⟨A, n, c, l⟩, ⟨A', n', c', l'⟩] #[.slice A n c, .slice A' n' c'] rfl 2 rfl (fun p hp => by
    simp only [List.mem_cons, List.not_mem_nil, or_false] at hp
    rcases hp with rfl | rfl
    · exact ⟨h, hc, hc2⟩
    · exact ⟨h', hc', hc2'⟩)
  have := csum_any _ 2 2 _ _ hp (by rw [catP_two]; exact hz) (by decide)
  rwa [catP_two] at this
theorem sum3_any (A A' A2 : Option Addr) (n c n' c' n2 c2 : Nat) (l l' l2 : List UInt8) (W : World) (h : Rd W W.heap.size A n l ∧ n ≤ c ∧ c ≤ 9223372036854775807) (h' : Rd W W.heap.size A' n' l' ∧ n' ≤ c' ∧ c' ≤ 9223372036854775807) (h2 : Rd W W.heap.size A2 n2 l2 ∧ n2 ≤ c2 ∧ c2 ≤ 9223372036854775807) (hz : (l ++ l' ++ l2).length ≤ 549755813888) :
    Calls Try.prog 12 #[.slice (some ⟨W.heap.size, 0, none⟩) 3 3] (W.alloc (.cells #[.slice A n c, .slice A' n' c', .slice A2 n2 c2] 22)) (GivesO 5 (shaL (l ++ l' ++ l2)) (W.alloc (.cells #[.slice A n c, .slice A' n' c', .slice A2 n2 c2] 22))) := by
  have hp := ptsF_lit W 22 [⟨A, n, c, l⟩, ⟨A', n', c', l'⟩, ⟨A2, n2, c2, l2⟩] #[.slice A n c, .slice A' n' c', .slice A2 n2 c2] rfl 3 rfl (fun p hp => by
    simp only [List.mem_cons, List.not_mem_nil, or_false] at hp
    rcases hp with rfl | rfl | rfl
    · exact h
    · exact h'
    · exact h2)
  have := csum_any _ 3 3 _ _ hp (by rw [catP_three]; exact hz) (by decide)
  rwa [catP_three] at this

theorem shaL_length (l : List UInt8) : (shaL l).length = 32 := by
  have e : ∀ L : List (BitVec 32), (outL L).length = 4 * L.length := fun L => by
    induction L with
    | nil => rfl
    | cons y t ih => rw [show outL (y :: t) = be y.toNat 4 ++ outL t from rfl, List.length_append, be_length, ih, List.length_cons]; omega
  exact e _

theorem hex_abc : (⟨(hexL (shaL ([97] ++ [98, 99]))).toArray⟩ : ByteArray) = ⟨#[98, 97, 55, 56, 49, 54, 98, 102, 56, 102, 48, 49, 99, 102, 101, 97, 52, 49, 52, 49, 52, 48, 100, 101, 53, 100, 97, 101, 50, 50, 50, 51, 98, 48, 48, 51, 54, 49, 97, 51, 57, 54, 49, 55, 55, 97, 57, 99, 98, 52, 49, 48, 102, 102, 54, 49, 102, 50, 48, 48, 49, 53, 97, 100]⟩ := by
  rw [show ([97] ++ [98, 99] : List UInt8) = [97, 98, 99] from rfl, shaL_abc]; decide +kernel

set_option maxRecDepth 100000 in
set_option maxHeartbeats 1000000 in
theorem heads07_any (w : World) : Calls Try.prog 8 #[] w fun e w' => e = .returned (.bool true) ∧ Below w.heap.size w w' := by
  obtain ⟨D, hD⟩ : ∃ D, D = (⟨(hexL (shaL ([97] ++ [98, 99]))).toArray⟩ : ByteArray) := ⟨_, rfl⟩
  have hq : D.toList = [98, 97, 55, 56, 49, 54, 98, 102, 56, 102, 48, 49, 99, 102, 101, 97, 52, 49, 52, 49, 52, 48, 100, 101, 53, 100, 97, 101, 50, 50, 50, 51, 98, 48, 48, 51, 54, 49, 97, 51, 57, 54, 49, 55, 55, 97, 57, 99, 98, 52, 49, 48, 102, 102, 54, 49, 102, 50, 48, 48, 49, 53, 97, 100] := by rw [hD, hex_abc]; decide +kernel
  have CH := Lib.hid (fun (A : Option Addr) (c B : Nat) (W : World) (h : Rd W B A 32 (shaL ([97] ++ [98, 99]))) (hB : B ≤ W.heap.size) => rhex_any A 32 c B _ W h hB (by decide))
  have HD := Lib.hid hD
  have kc := run_const
  have kc2 := fun (o : Obj) (C : Array Value) (n c : Nat) => show (convert 22 22 (.slice (some ⟨w.heap.size + 1, 0, none⟩) n c)).run Try.prog ((w.alloc o).alloc (.cells C 5)) = .ok (.slice (some ⟨w.heap.size + 1, 0, none⟩) n c) ((w.alloc o).alloc (.cells C 5 (C.size, C.size + 1))) by
    have h := run_const (w.alloc o) C n c
    simpa using h
  have r1 : Rd ((w.alloc (.cells #[.int .u8 97] 5 (1, 2))).alloc (.cells #[.int .u8 98, .int .u8 99] 5 (2, 3))) (w.heap.size + 2) (some ⟨w.heap.size, 0, none⟩) 1 [97] := ((Rd.litm w _ rfl [97] 5 #[.int .u8 97] (1, 2) rfl 1 rfl).alloc (by simp) _).more (by omega)
  have r2 : Rd ((w.alloc (.cells #[.int .u8 97] 5 (1, 2))).alloc (.cells #[.int .u8 98, .int .u8 99] 5 (2, 3))) (w.heap.size + 2) (some ⟨w.heap.size + 1, 0, none⟩) 2 [98, 99] := Rd.litm (w.alloc _) (w.heap.size + 1) (by simp) [98, 99] 5 #[.int .u8 98, .int .u8 99] (2, 3) rfl 2 rfl
  have bb : Below w.heap.size w ((w.alloc (.cells #[.int .u8 97] 5 (1, 2))).alloc (.cells #[.int .u8 98, .int .u8 99] 5 (2, 3))) := ((Below.refl _ w).alloc (Nat.le_refl _) _).alloc (by simp) _
  have R1 := Lib.hid r1
  have R2 := Lib.hid r2
  have BB := Lib.hid bb
  clear hD r1 r2 bb
  go_enter Try.func8, Try.ntmps8
  go_wp2_with fail
  have zz : ((w.alloc (.cells #[.int .u8 97] 5 (1, 2))).alloc (.cells #[.int .u8 98, .int .u8 99] 5 (2, 3))).heap.size = w.heap.size + 2 := by simp
  generalize (w.alloc (.cells #[.int .u8 97] 5 (1, 2))).alloc (.cells #[.int .u8 98, .int .u8 99] 5 (2, 3)) = W at *
  have hs := sum2_any (some ⟨w.heap.size, 0, none⟩) (some ⟨w.heap.size + 1, 0, none⟩) 1 1 2 2 [97] [98, 99] W (R1.out.more (by omega)) (by decide) (by decide) (R2.out.more (by omega)) (by decide) (by decide) (by decide)
  rw [zz] at hs
  refine hs.mono ?_
  rintro e w1 ⟨v1, rfl, ho1, hb1⟩
  obtain ⟨A1, c1, rfl, hc1, hm1, hr1⟩ := Ob.rd_n ho1 (shaL_length _)
  have B1 : Hid (Below w.heap.size w w1) := (BB.out.alloc (by omega) _).trans (hb1.mono (by simp; omega))
  have RR := Lib.hid hr1
  clear hs ho1 hb1 hr1 zz kc kc2
  go_wp2_with fail
  refine (CH.out _ _ _ _ RR.out (Nat.le_refl _)).mono ?_
  rintro e w2 ⟨rfl, hb2⟩
  rw [← HD.out]
  have B2 := Lib.hid (B1.out.trans (hb2.mono B1.out.size))
  have CP := Lib.hid (cpad_any 3 (by decide) w2)
  clear hb2
  go_wp2_with fail
  refine CP.out.mono ?_
  rintro e w3 ⟨v3, rfl, ho3, hb3⟩
  obtain ⟨A3, c3, rfl, hc3, hm3, hr3⟩ := Ob.rd_n ho3 (show (padL 3).length = 61 from by rw [padL_length])
  have B3 := Lib.hid (B2.out.trans (hb3.mono B2.out.size))
  have CB := Lib.hid (cblock_no none none 0 0 0 0 w3 (by decide) (by decide) (by decide))
  have CN := Lib.hid (cpad_neg (-1) (by decide) w3)
  clear ho3 hb3 hr3
  go_wp2_with fail
  refine CB.out.mono ?_
  rintro e w4 ⟨rfl, rfl⟩
  go_wp2_with fail
  refine CN.out.mono ?_
  rintro e w4 ⟨rfl, rfl⟩
  go_wp2_with fail
  go_ret
  exact ⟨rfl, B3.out⟩
end Go.Proofs.Ytdhemebaddnmeaa
