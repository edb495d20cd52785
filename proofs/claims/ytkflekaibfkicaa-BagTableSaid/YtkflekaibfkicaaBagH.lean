/- The statements' heads. -/
import Derived.Test.YtkflekaibfkicaaBagU
import Derived.Test.YtkflekaibfkicaaBagG
import Derived.Test.YtkflekaibfkicaaBagP
import Derived.Test.YtkflekaibfkicaaBagQ
import Derived.Test.YtkflekaibfkicaaBagT
namespace Go.Proofs.Ytkflekaibfkicaa
open Go.RowKit Go.Maps

theorem nTSt.kp {B B' g g2 N : Nat} {w w' : World} {T : Int → Option ByteArray} (h : nTSt B w g N T) (hk : Kp true B' g2 w w') (hne : g ≠ g2) : nTSt B w' g N T := by
  obtain ⟨v, hc, hm⟩ := h.st
  exact ⟨h.le, (hk.frozen (p := ⟨g, 0, none⟩) hne hc).trans h.fr, v, hk.cell (p := ⟨g, 0, none⟩) hne hc, hm.keep fun b es c hb => hk.knd b _ hb ⟨es, c, rfl⟩⟩
theorem QSt.kp0 {B B' g q g2 : Nat} {w w' : World} (h : QSt B w g q []) (hk : Kp false B' g2 w w') (hne : g ≠ g2) : QSt B w' g q [] := by
  obtain ⟨v, hc, hs⟩ := h.st
  refine ⟨h.le, (hk.frozen (p := ⟨g, 0, none⟩) hne hc).trans h.fr, v, hk.cell (p := ⟨g, 0, none⟩) hne hc, ?_⟩
  rcases hs with h1 | ⟨c, cap, vs, h1, h2, ⟨s, r, h3⟩, h4, h5, h6⟩
  · exact .inl h1
  · refine .inr ⟨c, cap, vs, h1, h2, ⟨s, r, hk.knd c _ h3 ⟨_, _, _, _, _, _, rfl⟩⟩, h4, h5, ?_⟩
    rcases vs with _ | ⟨v, vs⟩
    · trivial
    · exact h6.elim
/-- The heads' table. -/
def T3 : Int → Option ByteArray := putT (putT (putT (fun _ => none) 3 ⟨#[97]⟩) 1 ⟨#[98]⟩) 3 ⟨#[99]⟩
theorem T3_keys {ks : List Int} (h1 : ks.Pairwise (· < ·)) (h2 : ∀ k, k ∈ ks ↔ (T3 k).isSome = true) : ks = [1, 3] := by
  refine rise_uniq h1 (by decide) fun k => ?_
  rw [h2]
  unfold T3 putT
  by_cases e3 : k = 3
  · simp [e3]
  · by_cases e1 : k = 1
    · simp [e1]
    · simp [e3, e1]

set_option maxRecDepth 100000 in
set_option maxHeartbeats 4000000 in
theorem heads12_any (w : World) : Calls Try.prog 8 #[] w fun e w' => e = .returned (.bool true) ∧ Below w.heap.size w w' := by
  obtain ⟨g1, hg1⟩ : ∃ g1, g1 = w.heap.size := ⟨_, rfl⟩
  obtain ⟨g2, hg2⟩ : ∃ g2, g2 = g1 + 1 := ⟨_, rfl⟩
  obtain ⟨w0, hw0⟩ : ∃ w0, w0 = (w.alloc (.cells #[.map none] 26)).alloc (.cells #[.chan none] 42) := ⟨_, rfl⟩
  have hc1 : w0.heap[g1]? = some (.cells #[.map none] 26) := by
    rw [hw0, hg1, Below.heap_alloc _ _ _ (by simp)]; exact heap_alloc_new w _
  have hc2 : w0.heap[g2]? = some (.cells #[.chan none] 42) := by
    have := heap_alloc_new (w.alloc (.cells #[.map none] 26)) (.cells #[.chan none] 42)
    rw [hw0, hg2, hg1]
    simpa only [World.size_alloc] using this
  have HT0 : Hid (nTSt w.heap.size w0 g1 0 (fun _ => none)) := ⟨by rw [hg1]; exact Nat.le_refl _, by simp [World.frozen?, hc1], .map none, by simp [World.cell?, hc1], .inl ⟨rfl, fun _ => rfl⟩⟩
  have HQ0 : Hid (QSt w.heap.size w0 g2 g2 []) := ⟨by rw [hg2, hg1]; exact Nat.le_succ _, by simp [World.frozen?, hc2], .chan none, by simp [World.cell?, hc2], .inl ⟨rfl, rfl⟩⟩
  have HB0 : Hid (w.heap.size ≤ w0.heap.size ∧ Below w.heap.size w w0 ∧ g1 ≠ g2) := ⟨by rw [hw0]; simp; omega, by rw [hw0]; exact ((Below.refl _ _).alloc (Nat.le_refl _) _).alloc (by simp) _, by omega⟩
  clear hc1 hc2
  go_enter Try.func8, Try.ntmps8
  go_wp2_with fail
  rw [← hw0, ← hg1, ← hg2]
  have H0 := Lib.hid (And.intro HT0.out (And.intro HQ0.out (And.intro HB0.out.1 HB0.out.2.1)))
  have HNE : Hid (g1 ≠ g2) := HB0.out.2.2
  clear hw0 hg1 hg2 HT0 HQ0 HB0
  have C1 : Calls Try.prog 9 #[.pointer (some ⟨g1, 0, none⟩), .int .i64 3, .string ⟨#[97]⟩] w0 fun e w' => e = .returned (.bool false) ∧ nTSt w.heap.size w' g1 1 (putT (fun _ => none) 3 ⟨#[97]⟩) ∧ Kp false w.heap.size g1 w0 w' := (nput_any w0 3 ⟨#[97]⟩ (by decide) (by decide) H0.out.1 H0.out.2.2.1).mono fun _ _ h => ⟨h.1.trans rfl, h.2⟩
  refine C1.mono ?_
  clear C1
  rintro e w1 ⟨rfl, ht, hk⟩
  have H1 := Lib.hid (And.intro ht (And.intro (H0.out.2.1.kp0 hk HNE.out.symm) (And.intro (Nat.le_trans H0.out.2.2.1 hk.size) (H0.out.2.2.2.trans hk.below))))
  clear ht hk
  go_wp2_with fail
  have C2 : Calls Try.prog 9 #[.pointer (some ⟨g1, 0, none⟩), .int .i64 1, .string ⟨#[98]⟩] w1 fun e w' => e = .returned (.bool false) ∧ nTSt w.heap.size w' g1 2 (putT (putT (fun _ => none) 3 ⟨#[97]⟩) 1 ⟨#[98]⟩) ∧ Kp false w.heap.size g1 w1 w' := (nput_any w1 1 ⟨#[98]⟩ (by decide) (by decide) H1.out.1 H1.out.2.2.1).mono fun _ _ h => ⟨h.1.trans rfl, h.2⟩
  refine C2.mono ?_
  clear C2
  rintro e w2 ⟨rfl, ht, hk⟩
  have H2 := Lib.hid (And.intro ht (And.intro (H1.out.2.1.kp0 hk HNE.out.symm) (And.intro (Nat.le_trans H1.out.2.2.1 hk.size) (H1.out.2.2.2.trans hk.below))))
  clear ht hk
  go_wp2_with fail
  have C3 : Calls Try.prog 9 #[.pointer (some ⟨g1, 0, none⟩), .int .i64 3, .string ⟨#[99]⟩] w2 fun e w' => e = .returned (.bool true) ∧ nTSt w.heap.size w' g1 3 (putT (putT (putT (fun _ => none) 3 ⟨#[97]⟩) 1 ⟨#[98]⟩) 3 ⟨#[99]⟩) ∧ Kp false w.heap.size g1 w2 w' := (nput_any w2 3 ⟨#[99]⟩ (by decide) (by decide) H2.out.1 H2.out.2.2.1).mono fun _ _ h => ⟨h.1.trans rfl, h.2⟩
  refine C3.mono ?_
  clear C3
  rintro e w3 ⟨rfl, ht, hk⟩
  have H3 := Lib.hid (And.intro ht (And.intro (H2.out.2.1.kp0 hk HNE.out.symm) (And.intro (Nat.le_trans H2.out.2.2.1 hk.size) (H2.out.2.2.2.trans hk.below))))
  clear ht hk
  go_wp2_with fail
  have C4 : Calls Try.prog 13 #[.pointer (some ⟨g1, 0, none⟩), .int .i64 3] w3 fun e w' => e = .returned (.tuple #[.string ⟨#[99]⟩, .bool true]) ∧ Below w3.heap.size w3 w' := (nget_any w3 3 (by decide) H3.out.1).mono fun _ _ h => ⟨h.1.trans rfl, h.2⟩
  refine C4.mono ?_
  clear C4
  rintro e w4 ⟨rfl, hb⟩
  have H4 := Lib.hid (And.intro (H3.out.1.below hb) (And.intro (H3.out.2.1.below hb) (And.intro (Nat.le_trans H3.out.2.2.1 hb.size) (H3.out.2.2.2.trans (hb.mono H3.out.2.2.1)))))
  clear hb
  go_wp2_with fail
  refine (qpush_yes w4 7 1 H4.out.2.1 (by decide) (by decide) H4.out.2.2.1 H4.out.2.1.lt).mono ?_
  rintro e w5 ⟨rfl, hq, hk⟩
  have H5 := Lib.hid (And.intro (H4.out.1.kp hk HNE.out) (And.intro hq (And.intro (Nat.le_trans H4.out.2.2.1 hk.size) (H4.out.2.2.2.trans hk.below))))
  clear hq hk
  go_wp2_with fail
  refine (qpush_no w5 8 1 H5.out.2.1 (by decide)).mono ?_
  rintro e w6 ⟨rfl, hb⟩
  have H6 := Lib.hid (And.intro (H5.out.1.below hb) (And.intro (H5.out.2.1.below hb) (And.intro (Nat.le_trans H5.out.2.2.1 hb.size) (H5.out.2.2.2.trans (hb.mono H5.out.2.2.1)))))
  clear hb
  go_wp2_with fail
  refine (qpop_some w6 7 H6.out.2.1).mono ?_
  rintro e w7 ⟨rfl, hq, hk⟩
  have H7 := Lib.hid (And.intro (H6.out.1.kp hk HNE.out) (And.intro hq (And.intro (Nat.le_trans H6.out.2.2.1 hk.size) (H6.out.2.2.2.trans hk.below))))
  clear hq hk
  go_wp2_with fail
  refine (nkeys_any w7 (by decide) H7.out.1).mono ?_
  rintro e w8 ⟨v, ks, rfl, hov, hr1, hr2, hlen, hb⟩
  obtain rfl := T3_keys hr1 hr2
  obtain ⟨A, c, rfl, hc, hrz⟩ := hov.rz
  have H8 := Lib.hid (And.intro (H7.out.2.1.below hb) (And.intro (H7.out.2.2.2.trans (hb.mono H7.out.2.2.1)) (Nat.le_trans H7.out.2.2.1 hb.size)))
  have HR8 := Lib.hid hrz
  clear hb hov hr1 hr2 hlen hc hrz
  go_wp2_with fail
  have hb9 : Below w8.heap.size w8 (w8.alloc (.cells #[.int .i64 1, .int .i64 3] 3)) := (Below.refl _ _).alloc (Nat.le_refl _) _
  have hz : Rz (w8.alloc (.cells #[.int .i64 1, .int .i64 3] 3)) (some ⟨w8.heap.size, 0, none⟩) 2 [1, 3] := ⟨rfl, fun _ => ⟨w8.heap.size, 0, rfl, fun j x hj => by
    rw [World.cell?_alloc_at _ _ _ _ rfl]
    match j, hj with
    | 0, hj => simp at hj; subst hj; rfl
    | 1, hj => simp at hj; subst hj; rfl
    | j + 2, hj => simp at hj⟩⟩
  refine (rints_any _ c 2 (HR8.out.below hb9) hz (by decide)).mono ?_
  rintro e w10 ⟨rfl, hb10⟩
  have hb := hb9.trans (hb10.mono hb9.size)
  have H10 := Lib.hid (And.intro (H8.out.1.below hb) (H8.out.2.1.trans (hb.mono H8.out.2.2)))
  clear hb hb9 hb10 hz
  go_wp2_with fail
  refine (qlen_any w10 H10.out.1).mono ?_
  rintro e w11 ⟨rfl, rfl⟩
  go_wp2_with fail
  go_ret
  exact ⟨rfl, H10.out.2⟩
end Go.Proofs.Ytkflekaibfkicaa
