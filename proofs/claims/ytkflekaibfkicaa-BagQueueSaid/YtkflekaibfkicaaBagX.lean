/- A queue gives what it was given, in order, and never has more than it may. (Made by gen/bag/BagX.py.) -/
import Derived.Test.YtkflekaibfkicaaBagV
import Derived.Test.YtkflekaibfkicaaBagW
namespace Go.Proofs.Ytkflekaibfkicaa
open Go.RowKit

/-- The things of a queue of ints. -/
def zl (xs : List Int) : List (List Value) := xs.map fun z => [Value.int .i64 z]
theorem zl_snoc (xs : List Int) (z : Int) : zl (xs ++ [z]) = zl xs ++ [[.int .i64 z]] := by simp [zl]
theorem zl_len (xs : List Int) : (zl xs).length = xs.length := by simp [zl]
/-- Where BagQueue stands: the queue (block g) and the row (block r) both hold xs. -/
structure BqS (w wr : World) (g r : Nat) (v : Value) (xs : List Int) : Prop where
  q : QSt w.heap.size wr g r (zl xs)
  o : Oo wr w.heap.size r v xs
  ne : v = .slice none 0 0 ∨ r ≠ g
  rl : r < wr.heap.size
  kb : Below w.heap.size w wr
section
variable {w wr w' w'' : World} {g r : Nat} {v : Value} {xs : List Int}
theorem BqS.sz (h : BqS w wr g r v xs) : w.heap.size ≤ wr.heap.size := h.kb.size
/-- A call of the queue's, which leaves the row. -/
theorem BqS.kp (h : BqS w wr g r v xs) (hk : Kp true w.heap.size g wr w') {ys : List Int} (hq : QSt w.heap.size w' g r (zl ys)) : QSt w.heap.size w' g r (zl ys) ∧ Oo w' w.heap.size r v xs ∧ r < w'.heap.size ∧ Below w.heap.size w w' ∧ w.heap.size ≤ w'.heap.size :=
  ⟨hq, h.o.kp hk h.ne, Nat.lt_of_lt_of_le h.rl hk.size, h.kb.trans hk.below, Nat.le_trans h.sz hk.size⟩
/-- An append to the row. -/
theorem BqS.app {z : Int} {v' : Value} {r' : Nat} (hq : QSt w.heap.size w' g r (zl (xs ++ [z]))) (hne : v = .slice none 0 0 ∨ r ≠ g) (hkb : Below w.heap.size w w') (hsz : w.heap.size ≤ w'.heap.size) (ho : Oo w'' w.heap.size r' v' (xs ++ [z])) (_ : v' ≠ .slice none 0 0) (hrl : r < w'.heap.size)
    (hor : (Below w'.heap.size w' w'' ∧ w'.heap.size ≤ r' ∧ r' < w''.heap.size) ∨ (r' = r ∧ v ≠ .slice none 0 0 ∧ Kp false w.heap.size r w' w'')) : BqS w w'' g r' v' (xs ++ [z]) := by
  have hg := hq.lt
  rcases hor with ⟨h1, h2, h3⟩ | ⟨rfl, h2, h3⟩
  · refine ⟨?_, ho, .inr (by omega), h3, hkb.trans (h1.mono hsz)⟩
    obtain ⟨u, hc, hs⟩ := (hq.below h1).st
    refine ⟨hq.le, (hq.below h1).fr, u, hc, ?_⟩
    rcases hs with hn | ⟨c, cap, vs, e1, e2, e3, e4, e5, e6⟩
    · exact .inl hn
    · refine .inr ⟨c, cap, vs, e1, e2, e3, e4, e5, ?_⟩
      obtain ⟨u0, hc0, hs0⟩ := hq.st
      rcases hs0 with ⟨rfl, -⟩ | ⟨c0, cap0, vs0, rfl, f2, ⟨s0, r0, f3⟩, f4, f5, f6⟩
      · have := ((h1.cell (p := ⟨g, 0, none⟩) hg).trans hc0).symm.trans hc
        rw [e1] at this
        cases this
      · have := ((h1.cell (p := ⟨g, 0, none⟩) hg).trans hc0).symm.trans hc
        rw [e1] at this
        injection this with this
        injection this with this
        injection this with this
        subst this
        obtain ⟨s, rr, e3⟩ := e3
        rw [h1.block c0 (Array.getElem?_eq_some_iff.1 f3).1, f3] at e3
        injection e3 with e3
        injection e3 with _ e3 _ _ _
        have : vs0 = vs := by simpa using e3
        subst this
        exact f6.fresh h1 h2 (fun x hx => by
          obtain ⟨y, -, rfl⟩ := List.mem_map.1 hx
          simp)
  · have hrg : r' ≠ g := hne.resolve_left h2
    refine ⟨?_, ho, .inr hrg, Nat.lt_of_lt_of_le hrl h3.size, hkb.trans h3.below⟩
    obtain ⟨u, hc, hs⟩ := hq.st
    refine ⟨hq.le, (h3.frozen (p := ⟨g, 0, none⟩) hrg.symm hc).trans hq.fr, u, h3.cell (p := ⟨g, 0, none⟩) hrg.symm hc, ?_⟩
    rcases hs with hn | ⟨c, cap, vs, e1, e2, ⟨s, rr, e3⟩, e4, e5, e6⟩
    · exact .inl hn
    · exact .inr ⟨c, cap, vs, e1, e2, ⟨s, rr, h3.knd c _ e3 ⟨_, _, _, _, _, _, rfl⟩⟩, e4, e5, e6.kpr h3⟩
end
theorem BqS.below {w wr w' : World} {g r : Nat} {v : Value} {xs : List Int} (h : BqS w wr g r v xs) (hb : Below wr.heap.size wr w') : BqS w w' g r v xs :=
  ⟨h.q.below hb, h.o.below hb, h.ne, Nat.lt_of_lt_of_le h.rl hb.size, h.kb.trans (hb.mono h.sz)⟩

set_option maxRecDepth 100000 in
set_option maxHeartbeats 8000000 in
theorem bagQueue_walk (A : Option Addr) (n c : Nat) (l : List Int) (most : Int) (w : World) (h : Rz w A n l ∧ n ≤ c ∧ ∀ x ∈ l, (Lit.int .i64 x).wf = true) (_ : (Lit.int .i64 most).wf = true) :
    Calls Try.prog 5 #[.slice A n c, .int .i64 most] w fun e w' => e = .returned (.bool true) ∧ Below w.heap.size w w' := by
  have CH := Lib.hid (heads12_any w)
  have HA := Lib.hid h.1
  clear h
  by_cases h5 : (500 : Int) < n
  · go_enter Try.func5, Try.ntmps5
    go_wp2_with fail
    refine CH.out.mono ?_
    rintro e w' ⟨rfl, hb⟩
    have HB := Lib.hid hb
    go_wp2_with fail
    go_ret
    exact ⟨rfl, HB.out⟩
  by_cases hm0 : most < 0
  · have h5' : ¬ (500 : Int) < n := h5
    go_enter Try.func5, Try.ntmps5
    go_wp2_with fail
    refine CH.out.mono ?_
    rintro e w' ⟨rfl, hb⟩
    have HB := Lib.hid hb
    go_wp2_with fail
    go_ret
    exact ⟨rfl, HB.out⟩
  by_cases hm6 : 600 < most
  · go_enter Try.func5, Try.ntmps5
    go_wp2_with fail
    refine CH.out.mono ?_
    rintro e w' ⟨rfl, hb⟩
    have HB := Lib.hid hb
    go_wp2_with fail
    go_ret
    exact ⟨rfl, HB.out⟩
  obtain ⟨g, hg⟩ : ∃ g, g = w.heap.size := ⟨_, rfl⟩
  have hcg : (w.alloc (.cells #[.chan none] 42)).heap[g]? = some (.cells #[.chan none] 42) := by rw [hg]; exact heap_alloc_new w _
  have HS0 : Hid (BqS w (w.alloc (.cells #[.chan none] 42)) g g (.slice none 0 0) []) := ⟨⟨by rw [hg]; exact Nat.le_refl _, by simp [World.frozen?, hcg], .chan none, by simp [World.cell?, hcg], .inl ⟨rfl, rfl⟩⟩, .inl ⟨rfl, rfl⟩, .inl rfl, by simp; omega, (Below.refl _ _).alloc (Nat.le_refl _) _⟩
  have HG := Lib.hid hg
  have HN5 : Hid (n ≤ 500) := by show _ ≤ _; omega
  have HM := Lib.hid (And.intro hm0 hm6)
  clear hcg hg
  go_enter Try.func5, Try.ntmps5
  go_wp2_with fail
  rw [← HG.out]
  clear hm0 hm6 h5
  go_loopw [6, 7] (fun v k wr => ∃ (i : Nat) (xs : List Int) (r : Nat), i ≤ n ∧ k = .int .i64 i ∧ xs.length ≤ i ∧ BqS w wr g r v xs) (fun _ k _ => n - (intOf k).toNat)
  case atStart => exact ⟨0, [], g, Nat.zero_le _, rfl, Nat.le_refl _, HS0.out⟩
  case round =>
    clear HS0
    obtain ⟨i, xs, r, hi, rfl, hlen, hst⟩ := hrel
    have HST := Lib.hid (And.intro hst hlen)
    obtain ⟨A2, c2, rfl, hc2, hrz⟩ := hst.o.form
    obtain ⟨m, hm⟩ : ∃ m, m = xs.length := ⟨_, rfl⟩
    rw [← hm] at HST hlen hrz hc2 ⊢
    have HRZ := Lib.hid (And.intro hrz (And.intro hc2 hm))
    clear hst hrz hc2
    have hn5 : n ≤ 500 := HN5.out
    by_cases hlt : i < n
    case neg =>
      obtain rfl : i = n := by omega
      have C9 := Lib.hid (heads12_any wr)
      have tn : ¬ (i : Int) < (i : Int) := by omega
      clear hlen hm
      go_wp2_with fail
      refine C9.out.mono ?_
      rintro e w' ⟨rfl, hb⟩
      have HB := Lib.hid (HST.out.1.kb.trans (hb.mono HST.out.1.sz))
      clear hb
      go_wp2_with fail
      go_ret
      exact ⟨rfl, HB.out⟩
    have tn : (i : Int) < (n : Int) := by omega
    have i0 : (0 : Int) ≤ (i : Int) := by omega
    have hra : Rz wr A n l := HA.out.keep fun b o _ j u hu => (World.cell?_of_block (w := w) (a := ⟨b, j, none⟩) (HST.out.1.kb.block b (World.block_lt_of_cell? w ⟨b, j, none⟩ hu))).trans hu
    obtain ⟨b, o, z, rfl, hz, hcz⟩ := hra.at_ hlt
    have HRA := Lib.hid hra
    clear hra hz
    by_cases hneg : z < 0
    · rcases xs with _ | ⟨x, xs⟩
      · have hm0 : m = 0 := by rw [hm]; rfl
        have hpos : ¬ (0 : Int) < (m : Int) := by omega
        have HV : Hid (True ∧ m = ([] : List Int).length) := ⟨trivial, hm⟩
        clear hm hm0
        go_wp2_with fail
        refine (qpop_none wr HST.out.1.q).mono ?_
        rintro e w1 ⟨rfl, rfl⟩
        have HS : Hid (BqS w wr g r (.slice A2 m c2) [] ∧ ([] : List Int).length ≤ i + 1) := ⟨HST.out.1, Nat.zero_le _⟩
        go_wp2_with fail
        refine (qlen_any wr HS.out.1.q).mono ?_
        rintro e wa ⟨rfl, rfl⟩
        rw [show ((zl (([] : List Int))).length : Int) = (m : Int) by rw [zl_len, HV.out.2]]
        go_wp2_with fail
        refine (qlist_any wr (zs := ([] : List Int)) HS.out.1.q (by have := HS.out.2; have := HN5.out; omega) HS.out.1.sz).mono ?_
        rintro e wb ⟨v4, rfl, hov4, hq4, hk4⟩
        obtain ⟨A4, c4, rfl, -, hrz4⟩ := hov4.rz
        have hrow4 := HS.out.1.o.kp hk4 HS.out.1.ne
        obtain ⟨A5, c5, e5, -, hrz5⟩ := hrow4.form
        rw [← HV.out.2] at e5
        have hA5 : A2 = A5 := by injection e5
        subst hA5
        have H4 : Hid (BqS w wb g r (.slice A2 m c2) (([] : List Int)) ∧ (([] : List Int)).length ≤ i + 1) := ⟨⟨hq4, hrow4, HS.out.1.ne, Nat.lt_of_lt_of_le HS.out.1.rl hk4.size, HS.out.1.kb.trans hk4.below⟩, HS.out.2⟩
        have C5 : Calls Try.prog 15 #[.slice A4 (([] : List Int)).length c4, .slice A2 m c2] wb fun e w' => e = .returned (.bool true) ∧ Below wb.heap.size wb w' := by
          rw [HV.out.2]
          exact (rints_any wb c4 c2 hrz4 hrz5 (by have := HS.out.2; have := HN5.out; omega)).mono fun _ _ h => ⟨h.1.trans (by simp), h.2⟩
        clear hov4 hq4 hk4 hrz4 hrow4 hrz5 e5
        go_wp2_with fail
        refine C5.mono ?_
        clear C5
        rintro e wc ⟨rfl, hbc⟩
        have H5 : Hid (BqS w wc g r (.slice A2 m c2) (([] : List Int))) := H4.out.1.below hbc
        have HLL : Hid ((([] : List Int)).length ≤ i + 1) := H4.out.2
        clear hbc H4 HS
        go_wp2_with fail
        go_roundw
        case rel => exact ⟨i + 1, ([] : List Int), r, by omega, by simp, HLL.out, H5.out⟩
        case measure => simp [intOf]; omega
      · obtain ⟨b2, o2, x0, rfl, hx0, -⟩ := HRZ.out.1.at_ (i := 0) (by rw [hm]; simp)
        obtain rfl : x = x0 := by simpa using hx0
        have hpos : (0 : Int) < (m : Int) := by rw [hm]; simp
        have hm1 : Hid (m = xs.length + 1) := by show _ = _; rw [hm]; rfl
        have hxx : (x != x) = false := by simp
        clear hm hx0
        go_wp2_with fail
        refine (qpop_some wr x HST.out.1.q).mono ?_
        rintro e w1 ⟨rfl, hq1, hk1⟩
        obtain ⟨hq1, ho1, hr1, hb1, hs1⟩ := HST.out.1.kp hk1 (ys := xs) hq1
        obtain ⟨A3, c3, e3, -, hrz3⟩ := ho1.form
        have hA3 : some (⟨b2, o2, none⟩ : Addr) = A3 := by injection e3
        subst hA3
        obtain ⟨b3, o3, x3, e4, hx3, hc3⟩ := hrz3.at_ (i := 0) (by simp)
        obtain rfl : x = x3 := by simpa using hx3
        injection e4 with e4
        injection e4 with e5 e6 _
        subst e5 e6
        have hc4 : w1.cell? ⟨b2, o2, none⟩ = some (.int .i64 x) := hc3
        obtain ⟨v', hcut, ho2, hv'⟩ := ho1.cut
        have hrg : r ≠ g := HST.out.1.ne.resolve_left (by intro e; injection e with _ e _; have := hm1.out; omega)
        have HB : Hid (BqS w w1 g r v' xs) := ⟨hq1, ho2, .inr hrg, hr1, hb1⟩
        obtain ⟨A6, c6, rfl, -, -⟩ := ho2.form
        obtain ⟨m2, hm2⟩ : ∃ m2, m2 = xs.length := ⟨_, rfl⟩
        have HV : Hid (True ∧ m2 = xs.length) := ⟨trivial, hm2⟩
        rw [← hm2] at hcut HB
        have HS : Hid (BqS w w1 g r (.slice A6 m2 c6) xs ∧ xs.length ≤ i + 1) := ⟨HB.out, by have := HST.out.2; have := hm1.out; omega⟩
        clear hq1 ho1 hk1 hr1 hb1 hs1 e3 hrz3 hx3 hc3 ho2 hv' hrg HB hm2
        go_wp2_with fail
        refine (qlen_any w1 HS.out.1.q).mono ?_
        rintro e wa ⟨rfl, rfl⟩
        rw [show ((zl (xs)).length : Int) = (m2 : Int) by rw [zl_len, HV.out.2]]
        go_wp2_with fail
        refine (qlist_any w1 (zs := xs) HS.out.1.q (by have := HS.out.2; have := HN5.out; omega) HS.out.1.sz).mono ?_
        rintro e wb ⟨v4, rfl, hov4, hq4, hk4⟩
        obtain ⟨A4, c4, rfl, -, hrz4⟩ := hov4.rz
        have hrow4 := HS.out.1.o.kp hk4 HS.out.1.ne
        obtain ⟨A5, c5, e5, -, hrz5⟩ := hrow4.form
        rw [← HV.out.2] at e5
        have hA5 : A6 = A5 := by injection e5
        subst hA5
        have H4 : Hid (BqS w wb g r (.slice A6 m2 c6) (xs) ∧ (xs).length ≤ i + 1) := ⟨⟨hq4, hrow4, HS.out.1.ne, Nat.lt_of_lt_of_le HS.out.1.rl hk4.size, HS.out.1.kb.trans hk4.below⟩, HS.out.2⟩
        have C5 : Calls Try.prog 15 #[.slice A4 (xs).length c4, .slice A6 m2 c6] wb fun e w' => e = .returned (.bool true) ∧ Below wb.heap.size wb w' := by
          rw [HV.out.2]
          exact (rints_any wb c4 c6 hrz4 hrz5 (by have := HS.out.2; have := HN5.out; omega)).mono fun _ _ h => ⟨h.1.trans (by simp), h.2⟩
        clear hov4 hq4 hk4 hrz4 hrow4 hrz5 e5
        go_wp2_with fail
        refine C5.mono ?_
        clear C5
        rintro e wc ⟨rfl, hbc⟩
        have H5 : Hid (BqS w wc g r (.slice A6 m2 c6) (xs)) := H4.out.1.below hbc
        have HLL : Hid ((xs).length ≤ i + 1) := H4.out.2
        clear hbc H4 HS
        go_wp2_with fail
        go_roundw
        case rel => exact ⟨i + 1, xs, r, by omega, by simp, HLL.out, H5.out⟩
        case measure => simp [intOf]; omega
    · have hnz : ¬ z < 0 := hneg
      have hla : ∀ W, Below w.heap.size w W → W.cell? ⟨b, o + i, none⟩ = some (.int .i64 z) := fun W hW => by
        have h2 : Rz W (some ⟨b, o, none⟩) n l := HA.out.keep fun b o _ j u hu => (World.cell?_of_block (w := w) (a := ⟨b, j, none⟩) (hW.block b (World.block_lt_of_cell? w ⟨b, j, none⟩ hu))).trans hu
        obtain ⟨b', o', z', e1, hz', hc'⟩ := h2.at_ hlt
        obtain ⟨b3, o3, z3, e3, hz3, hc3⟩ := HRA.out.at_ hlt
        injection e1 with e1
        injection e1 with e1 e2 _
        subst e1 e2
        injection e3 with e3
        injection e3 with e3 e4 _
        subst e3 e4
        rw [hz'] at hz3
        injection hz3 with hz3
        subst hz3
        rw [hc3] at hcz
        injection hcz with hcz
        injection hcz with _ hcz
        rw [← hcz]
        exact hc'
      have HLA := Lib.hid hla
      clear hla
      by_cases hroom : (m : Int) < most
      · have hrm : Hid (((zl xs).length : Int) < most) := by show _ < _; rw [zl_len, ← hm]; exact hroom
        have C1 := Lib.hid (qpush_yes wr z most HST.out.1.q hrm.out (by rw [zl_len, ← hm]; have := HST.out.2; omega) HST.out.1.sz HST.out.1.rl)
        have HMX := Lib.hid hm
        clear hm hlen
        go_wp2_with fail
        refine C1.out.mono ?_
        rintro e w1 ⟨rfl, hq1, hk1⟩
        rw [← zl_snoc] at hq1
        obtain ⟨hq1, ho1, hr1, hb1, hs1⟩ := HST.out.1.kp hk1 (ys := xs ++ [z]) hq1
        have hcz1 := HLA.out _ hb1
        have H1 := Lib.hid (And.intro hq1 (And.intro ho1 (And.intro hr1 (And.intro hb1 hs1))))
        clear hq1 ho1 hk1 hr1 hb1 hs1 hcz
        go_wp2_with (first
          | (at_builtin; refine wpList_appo rfl (.tmp 77) (.tmp 82) rfl rfl (H1.out.2.1.below ((Below.refl _ _).alloc (Nat.le_refl _) _)) w1.heap.size 1 z rfl ((World.cell?_alloc_at _ _ _ _ rfl).trans rfl) (by rw [← HMX.out]; have := HST.out.2; have := HN5.out; omega) (by have := H1.out.2.2.2.2; simp; omega) ?_; intro v4 w4 r4 ho4 hv4 hor4
             obtain ⟨A6, c6, m2, hv4e, hm2⟩ : ∃ A6 c6 m2, v4 = .slice A6 m2 c6 ∧ m2 = (xs ++ [z]).length := by
               obtain ⟨A, c, h, -, -⟩ := ho4.form
               exact ⟨A, c, _, h, rfl⟩
             subst hv4e
             have H4 := Lib.hid (And.intro ho4 (And.intro hv4 hor4)); clear ho4 hv4 hor4
             have HV : Hid (True ∧ m2 = (xs ++ [z]).length) := ⟨trivial, hm2⟩
             clear hm2)
          | fail)
        have HS : Hid (BqS w w4 g r4 (.slice A6 m2 c6) (xs ++ [z]) ∧ (xs ++ [z]).length ≤ i + 1) := ⟨BqS.app (H1.out.1.below ((Below.refl _ _).alloc (Nat.le_refl _) _)) HST.out.1.ne (H1.out.2.2.2.1.alloc H1.out.2.2.2.2 _) (by have := H1.out.2.2.2.2; simp; omega) H4.out.1 H4.out.2.1 (by have := H1.out.2.2.1; simp; omega) H4.out.2.2, by have := HST.out.2; have := HMX.out; rw [List.length_append, List.length_singleton]; omega⟩
        clear H4 H1
        refine (qlen_any w4 HS.out.1.q).mono ?_
        rintro e wa ⟨rfl, rfl⟩
        rw [show ((zl ((xs ++ [z]))).length : Int) = (m2 : Int) by rw [zl_len, HV.out.2]]
        go_wp2_with fail
        refine (qlist_any w4 (zs := (xs ++ [z])) HS.out.1.q (by have := HS.out.2; have := HN5.out; omega) HS.out.1.sz).mono ?_
        rintro e wb ⟨v4, rfl, hov4, hq4, hk4⟩
        obtain ⟨A4, c4, rfl, -, hrz4⟩ := hov4.rz
        have hrow4 := HS.out.1.o.kp hk4 HS.out.1.ne
        obtain ⟨A5, c5, e5, -, hrz5⟩ := hrow4.form
        rw [← HV.out.2] at e5
        have hA5 : A6 = A5 := by injection e5
        subst hA5
        have H4 : Hid (BqS w wb g r4 (.slice A6 m2 c6) ((xs ++ [z])) ∧ ((xs ++ [z])).length ≤ i + 1) := ⟨⟨hq4, hrow4, HS.out.1.ne, Nat.lt_of_lt_of_le HS.out.1.rl hk4.size, HS.out.1.kb.trans hk4.below⟩, HS.out.2⟩
        have C5 : Calls Try.prog 15 #[.slice A4 (xs.length + 1) c4, .slice A6 m2 c6] wb fun e w' => e = .returned (.bool true) ∧ Below wb.heap.size wb w' := by
          rw [HV.out.2, show xs.length + 1 = (xs ++ [z]).length by simp]
          exact (rints_any wb c4 c6 hrz4 hrz5 (by have := HS.out.2; have := HN5.out; omega)).mono fun _ _ h => ⟨h.1.trans (by simp), h.2⟩
        clear hov4 hq4 hk4 hrz4 hrow4 hrz5 e5
        go_wp2_with fail
        refine C5.mono ?_
        clear C5
        rintro e wc ⟨rfl, hbc⟩
        have H5 : Hid (BqS w wc g r4 (.slice A6 m2 c6) ((xs ++ [z]))) := H4.out.1.below hbc
        have HLL : Hid (((xs ++ [z])).length ≤ i + 1) := H4.out.2
        clear hbc H4 HS
        go_wp2_with fail
        go_roundw
        case rel => exact ⟨i + 1, (xs ++ [z]), r4, by omega, by simp, HLL.out, H5.out⟩
        case measure => simp [intOf]; omega
      · have hrm : Hid (most ≤ ((zl xs).length : Int)) := by show _ ≤ _; rw [zl_len, ← hm]; omega
        have C1 := Lib.hid (qpush_no wr z most HST.out.1.q hrm.out)
        have HMX := Lib.hid hm
        clear hm hlen
        go_wp2_with fail
        refine C1.out.mono ?_
        rintro e w1 ⟨rfl, hb1⟩
        have HS : Hid (BqS w w1 g r (.slice A2 m c2) xs ∧ xs.length ≤ i + 1) := ⟨HST.out.1.below hb1, by have := HST.out.2; have := HMX.out; omega⟩
        have HV : Hid (True ∧ m = xs.length) := ⟨trivial, HMX.out⟩
        clear hb1 hcz
        go_wp2_with fail
        refine (qlen_any w1 HS.out.1.q).mono ?_
        rintro e wa ⟨rfl, rfl⟩
        rw [show ((zl (xs)).length : Int) = (m : Int) by rw [zl_len, HV.out.2]]
        go_wp2_with fail
        refine (qlist_any w1 (zs := xs) HS.out.1.q (by have := HS.out.2; have := HN5.out; omega) HS.out.1.sz).mono ?_
        rintro e wb ⟨v4, rfl, hov4, hq4, hk4⟩
        obtain ⟨A4, c4, rfl, -, hrz4⟩ := hov4.rz
        have hrow4 := HS.out.1.o.kp hk4 HS.out.1.ne
        obtain ⟨A5, c5, e5, -, hrz5⟩ := hrow4.form
        rw [← HV.out.2] at e5
        have hA5 : A2 = A5 := by injection e5
        subst hA5
        have H4 : Hid (BqS w wb g r (.slice A2 m c2) (xs) ∧ (xs).length ≤ i + 1) := ⟨⟨hq4, hrow4, HS.out.1.ne, Nat.lt_of_lt_of_le HS.out.1.rl hk4.size, HS.out.1.kb.trans hk4.below⟩, HS.out.2⟩
        have C5 : Calls Try.prog 15 #[.slice A4 (xs).length c4, .slice A2 m c2] wb fun e w' => e = .returned (.bool true) ∧ Below wb.heap.size wb w' := by
          rw [HV.out.2]
          exact (rints_any wb c4 c2 hrz4 hrz5 (by have := HS.out.2; have := HN5.out; omega)).mono fun _ _ h => ⟨h.1.trans (by simp), h.2⟩
        clear hov4 hq4 hk4 hrz4 hrow4 hrz5 e5
        go_wp2_with fail
        refine C5.mono ?_
        clear C5
        rintro e wc ⟨rfl, hbc⟩
        have H5 : Hid (BqS w wc g r (.slice A2 m c2) (xs)) := H4.out.1.below hbc
        have HLL : Hid ((xs).length ≤ i + 1) := H4.out.2
        clear hbc H4 HS
        go_wp2_with fail
        go_roundw
        case rel => exact ⟨i + 1, xs, r, by omega, by simp, HLL.out, H5.out⟩
        case measure => simp [intOf]; omega
end Go.Proofs.Ytkflekaibfkicaa
