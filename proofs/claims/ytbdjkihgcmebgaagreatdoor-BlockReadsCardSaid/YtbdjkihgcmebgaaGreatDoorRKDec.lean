/- What Decode of layer 3 returns. -/
import Derived.Test.YtbdjkihgcmebgaaGreatDoorRKRdE
namespace Go.Proofs.YtbdjkihgcmebgaaGreatDoor
open Go.RowKit

/-- What stands behind a head of the major m. -/
def kindR (sub : Nat → List UInt8 → Except Int (Itm × Nat × List UInt8)) (m k p : Nat) (r : List UInt8) : Except Int (Itm × Nat × List UInt8) :=
  if m = 0 then .ok (.mk 0 k [] [], p, r) else if m = 4 then lst 4 (many sub k p r) else textD m k p r
/-- What stands behind a head's bytes. -/
def tailR (sub : Nat → List UInt8 → Except Int (Itm × Nat × List UInt8)) (p : Nat) (rh : Except Int (Nat × Nat × List UInt8)) : Except Int (Itm × Nat × List UInt8) :=
  match rh with
  | .error z => .error z
  | .ok (m, k, r') => kindR sub m k p r'
/-- What item asks of the levels that are left. -/
def Lvl (D d : Nat) (sub : Nat → List UInt8 → Except Int (Itm × Nat × List UInt8)) (deep : Bool) : Prop :=
  dec D = itemD sub deep ∧ (deep = decide (d = 8)) ∧ (deep = false → ∃ D', d + 1 + D' = 8 ∧ sub = dec D' ∧ ItemIH D')

theorem eq_nilf (W : World) : (binOp .eql 109 .nilFunc .nilFunc).run Tryz.prog W = .ok (.bool true) W := by kernel_rfl
theorem eq_somef (f : Fn) (a b : Array Value) (W : World) : (binOp .eql 109 (.func f a b) .nilFunc).run Tryz.prog W = .ok (.bool false) W := by kernel_rfl

section
variable {w : World} {g n c i p d D : Nat} {A : Option Addr} {bs : List UInt8} {sub : Nat → List UInt8 → Except Int (Itm × Nat × List UInt8)} {deep : Bool}

theorem GivesR.mono_err {z : Int} {r : Except Int (Itm × Nat × List UInt8)} (hr : r = .error z) {e : Ending} {w' : World} (h : e = .returned (.tuple #[noItem, flt z]) ∧ Only g w w') : GivesR g A n c bs d r w e w' := by subst hr; exact h

theorem textD_code (h : RSt w g A n c bs i p d) (m : Nat) (hm : m < 18446744073709551616) (k : Nat) (hk : k = 2 ∨ k = 3) :
    Calls Tryz.prog (if k = 2 then 78 else 79) #[.pointer (some ⟨g, 0, none⟩), .int .u64 (m : Int)] w (GivesR g A n c bs d (textD k m p (bs.drop i)) w) := by
  have hl : (bs.drop i).length = n - i := by rw [List.length_drop, h.rd.1]
  rcases hk with rfl | rfl
  · rw [if_pos rfl, textD, if_neg (by omega)]
    by_cases hs : n - i < m
    · rw [if_pos (by rw [hl]; exact hs)]
      exact bytes_short h m hs hm
    · rw [if_neg (by rw [hl]; exact hs)]
      exact bytes_ok h m (by omega)
  · rw [if_neg (by decide), textD]
    rcases hp : plain ((bs.drop i).take m) with _ | _
    · rw [if_pos ⟨rfl, rfl⟩]
      exact text_bad h m hp
    · rw [if_neg (by simp)]
      by_cases hs : n - i < m
      · rw [if_pos (by rw [hl]; exact hs)]
        exact text_short h m hp hs
      · rw [if_neg (by rw [hl]; exact hs)]
        exact text_ok h m hp (by omega)

theorem kind_any (x : UInt8) (h27 : x.toNat % 32 ≤ 27) (hm : x.toNat / 32 = 0 ∨ x.toNat / 32 = 2 ∨ x.toNat / 32 = 3 ∨ x.toNat / 32 = 4) (h4 : x.toNat / 32 = 4 → ∃ D', d + 1 + D' = 8 ∧ sub = dec D' ∧ ItemIH D') :
    ∃ k : FuncId, behV x g = .func (.func k) #[.pointer (some ⟨g, 0, none⟩)] #[] ∧ ∀ (W : World) (i' p1 num : Nat), RSt W g A n c bs i' p1 d → num < 18446744073709551616 → p1 ≤ 4096 →
      Calls Tryz.prog k #[.pointer (some ⟨g, 0, none⟩), .int .u64 (num : Int)] W (GivesR g A n c bs d (kindR sub (x.toNat / 32) num p1 (bs.drop i')) W) := by
  unfold behV
  rw [if_neg (by omega)]
  rcases hm with e | e | e | e
  · refine ⟨_, by rw [if_pos e], fun W i' p1 num hs hn _ => ?_⟩
    rw [kindR, if_pos e]
    exact uint_any hs num hn
  · refine ⟨_, by rw [if_neg (by omega), if_pos e], fun W i' p1 num hs hn _ => ?_⟩
    rw [kindR, if_neg (by omega), if_neg (by omega), e]
    exact textD_code hs num hn 2 (.inl rfl)
  · refine ⟨_, by rw [if_neg (by omega), if_neg (by omega), if_pos e], fun W i' p1 num hs hn _ => ?_⟩
    rw [kindR, if_neg (by omega), if_neg (by omega), e]
    exact textD_code hs num hn 3 (.inr rfl)
  · obtain ⟨D', hD, rfl, IH⟩ := h4 e
    refine ⟨_, by rw [if_neg (by omega), if_neg (by omega), if_neg (by omega), if_pos e], fun W i' p1 num hs hn hp => ?_⟩
    rw [kindR, if_neg (by omega), if_pos e]
    exact array_any IH hD hp hs num hn

/-- The beginnings of itemD. -/
theorem itemD_32 {x : UInt8} {r : List UInt8} (h : p = 4096 ∨ (arrB x = true ∧ deep = true)) : itemD sub deep p (x :: r) = .error 32 := by rw [itemD, if_pos h]
theorem itemD_end {x : UInt8} {r : List UInt8} (h : ¬ (p = 4096 ∨ (arrB x = true ∧ deep = true))) (hx : x = 0x9f) : itemD sub deep p (x :: r) = lst 5 (endl sub (r.length + 1) (p + 1) r) := by
  rw [itemD, if_neg h, if_pos hx]
  rcases endl sub (r.length + 1) (p + 1) r with z | ⟨xs, p2, l2⟩ <;> rfl
theorem itemD_head {x : UInt8} {r : List UInt8} (h : ¬ (p = 4096 ∨ (arrB x = true ∧ deep = true))) (hx : ¬ x = 0x9f) : itemD sub deep p (x :: r) = tailR sub (p + 1) (headD (x :: r)) := by
  rw [itemD, if_neg h, if_neg hx]
  rcases headD (x :: r) with z | ⟨m, k, r'⟩
  · rfl
  · show (if m = 0 then _ else _) = kindR sub m k (p + 1) r'
    unfold kindR
    split
    · rfl
    split
    · rcases many sub k (p + 1) r' with z | ⟨xs, p2, l2⟩ <;> rfl
    · rfl
theorem headD_31 {x : UInt8} {r : List UInt8} (h : behV x g = .nilFunc) : headD (x :: r) = .error 31 := by
  have hx := x.toNat_lt
  unfold behV at h
  by_cases h27 : 27 < x.toNat % 32
  · rw [headD, if_pos (.inr h27)]
  rw [if_neg h27] at h
  by_cases h0 : x.toNat / 32 = 0
  · rw [if_pos h0] at h; cases h
  rw [if_neg h0] at h
  by_cases h2 : x.toNat / 32 = 2
  · rw [if_pos h2] at h; cases h
  rw [if_neg h2] at h
  by_cases h3 : x.toNat / 32 = 3
  · rw [if_pos h3] at h; cases h
  rw [if_neg h3] at h
  by_cases h4 : x.toNat / 32 = 4
  · rw [if_pos h4] at h; cases h
  rw [headD, if_pos (.inl ⟨h0, h2, h3, h4⟩)]
theorem headD_maj {x : UInt8} {r r' : List UInt8} {m k : Nat} (h : headD (x :: r) = .ok (m, k, r')) : m = x.toNat / 32 ∧ k < 18446744073709551616 := by
  refine ⟨?_, (headD_ok h).2.1⟩
  rw [headD] at h
  split at h
  · cases h
  split at h
  · cases h; rfl
  split at h
  · cases h
  split at h
  · cases h
  · cases h; rfl

set_option maxRecDepth 100000 in
set_option maxHeartbeats 2000000 in
theorem item_nil (h : RSt w g A n c bs i p d) (hl : ¬ i < n) :
    Calls Tryz.prog 34 #[.pointer (some ⟨g, 0, none⟩)] w fun e w' => e = .returned (.tuple #[noItem, flt 30]) ∧ Only g w w' := by
  obtain rfl : i = n := by have := h.hi; omega
  have hs := h.alloc (.cells #[.int .i64 0, .int .u64 0, .slice none 0 0, .slice none 0 0] 42)
  have g0 := hs.c0
  have g1 := hs.c1
  clear h hs hl
  go_enter Tryz.func34, Tryz.ntmps34
  go_wp2_with fail
  go_quiet (fail)
  obtain ⟨⟨z0, z1, z2, z3⟩, f0, f1, f2, f3⟩ := zero_cells (w := w) (W' := (w.alloc (.cells #[.int .i64 0, .int .u64 0, .slice none 0 0, .slice none 0 0] 42)).drewN nq) (below_drewN _ _ _)
  have HB := Lib.hid (((Below.refl w.heap.size w).alloc (Nat.le_refl _) (.cells #[.int .i64 0, .int .u64 0, .slice none 0 0, .slice none 0 0] 42)).trans (below_drewN _ _ nq))
  go_wp2_with fail
  refine bodyPost_ret (v := .tuple #[noItem, flt 30]) (by simp [results, Tryz.results34, go_sem, z0, z1, z2, z3, noItem, flt]) rfl ⟨rfl, set4_only (Only.of_below HB.out) (Nat.le_refl _)⟩

set_option maxRecDepth 100000 in
set_option maxHeartbeats 4000000 in
theorem item_full (h : RSt w g A n c bs i p d) (hl : i < n) (x : UInt8) (hx : bs.drop i = x :: bs.drop (i + 1)) (hp : p = 4096) :
    Calls Tryz.prog 34 #[.pointer (some ⟨g, 0, none⟩)] w fun e w' => e = .returned (.tuple #[noItem, flt 32]) ∧ Only g w w' := by
  obtain ⟨b, o, y, rfl, hcx, hy, hb⟩ := h.byte hl
  rw [hx] at hy
  obtain ⟨rfl, -⟩ := List.cons.inj hy
  have hs := h.alloc (.cells #[.int .i64 0, .int .u64 0, .slice none 0 0, .slice none 0 0] 42)
  have g0 := hs.c0
  have g1 := hs.c1
  have HS := Lib.hid hs
  have HG := Lib.hid h.lt
  have HBL := Lib.hid hb
  have hcx2 : (w.alloc (.cells #[.int .i64 0, .int .u64 0, .slice none 0 0, .slice none 0 0] 42)).cell? ⟨b, o + i, none⟩ = some (.int .u8 (x.toNat : Int)) := by rw [World.cell?_alloc_lt _ _ _ (Nat.lt_trans hb h.lt)]; exact hcx
  have hz : ((i : Int) == (n : Int)) = false := by simp; omega
  have i0' : (0 : Int) ≤ (i : Int) := by omega
  have i1' : (i : Int) < (n : Int) := by omega
  have hn6 := h.hn
  clear hs hy hb hcx
  have hp1 : decide ((4096 : Int) < (p : Int) + 1) = true := decide_eq_true (by omega)
  have hp2 : (4096 : Int) < (p : Int) + 1 := by omega
  have hp5 : p ≤ 4096 := by omega
  generalize x.toNat = X at *
  clear hx hp
  clear h
  go_enter Tryz.func34, Tryz.ntmps34
  go_wp2_with fail
  go_quiet (fail)
  have g0' : ((w.alloc (.cells #[.int .i64 0, .int .u64 0, .slice none 0 0, .slice none 0 0] 42)).drewN nq).cell? ⟨g, 0, none⟩ = some (.slice (some ⟨b, o, none⟩) n c) := g0
  have g1' : ((w.alloc (.cells #[.int .i64 0, .int .u64 0, .slice none 0 0, .slice none 0 0] 42)).drewN nq).cell? ⟨g, 1, none⟩ = some (.int .i64 (i : Int)) := g1
  have hcx3 : ((w.alloc (.cells #[.int .i64 0, .int .u64 0, .slice none 0 0, .slice none 0 0] 42)).drewN nq).cell? ⟨b, o + i, none⟩ = some (.int .u8 (X : Int)) := hcx2
  have HX1 := Lib.hid (below_drewN (w.heap.size + 1) (w.alloc (.cells #[.int .i64 0, .int .u64 0, .slice none 0 0, .slice none 0 0] 42)) nq)
  have HS1 := Lib.hid (HS.out.drewN nq)
  generalize (w.alloc (.cells #[.int .i64 0, .int .u64 0, .slice none 0 0, .slice none 0 0] 42)).drewN nq = W1 at *
  go_wp2_with fail
  go_quiet (fail)
  have HX2 := Lib.hid (HX1.out.trans (below_drewN (w.heap.size + 1) W1 nq))
  have HS2 := Lib.hid (HS1.out.drewN nq)
  have g2' := HS2.out.c2
  have q2' := HS2.out.f2
  generalize W1.drewN nq = W2 at *
  have hs3 := HS2.out.set2 (z := (p : Int) + 1) (p + 1) (by omega)
  have r1 := hs3.c1
  have rf1 := hs3.f1
  have r2 := hs3.c2
  have r3 := hs3.c3
  have e1 : ((p + 1 : Nat) : Int) = (p : Int) + 1 := by omega
  rw [e1] at r2
  have HS3 := Lib.hid hs3
  have HOX := Lib.hid ((Only.of_below (g := g) (show Below (w.alloc (.cells #[.int .i64 0, .int .u64 0, .slice none 0 0, .slice none 0 0] 42)).heap.size (w.alloc (.cells #[.int .i64 0, .int .u64 0, .slice none 0 0, .slice none 0 0] 42)) W2 by have := HX2.out; rwa [show (w.alloc (.cells #[.int .i64 0, .int .u64 0, .slice none 0 0, .slice none 0 0] 42)).heap.size = w.heap.size + 1 by simp])).setCell (p := ⟨g, 2, none⟩) rfl (.int .i64 ((p : Int) + 1)))
  have HOW := Lib.hid (((Only.refl g w).alloc (.cells #[.int .i64 0, .int .u64 0, .slice none 0 0, .slice none 0 0] 42)).trans HOX.out)
  clear hs3 e1 g0 g1 g0' g1' hcx2 hcx3 HX1 HS1
  obtain ⟨⟨z0, z1, z2, z3⟩, f0, f1, f2, f3⟩ := zero_only HOX.out HG.out
  go_wp2_with fail
  refine bodyPost_ret (v := .tuple #[noItem, flt 32]) (by simp [results, Tryz.results34, go_sem, z0, z1, z2, z3, noItem, flt]) rfl ⟨rfl, set4_only HOW.out (Nat.le_refl _)⟩

set_option maxRecDepth 100000 in
set_option maxHeartbeats 4000000 in
theorem item_deep (h : RSt w g A n c bs i p d) (hl : i < n) (x : UInt8) (hx : bs.drop i = x :: bs.drop (i + 1)) (hp : p < 4096) (ha : arrB x = true) (hd : d = 8) :
    Calls Tryz.prog 34 #[.pointer (some ⟨g, 0, none⟩)] w fun e w' => e = .returned (.tuple #[noItem, flt 32]) ∧ Only g w w' := by
  obtain ⟨b, o, y, rfl, hcx, hy, hb⟩ := h.byte hl
  rw [hx] at hy
  obtain ⟨rfl, -⟩ := List.cons.inj hy
  have hs := h.alloc (.cells #[.int .i64 0, .int .u64 0, .slice none 0 0, .slice none 0 0] 42)
  have g0 := hs.c0
  have g1 := hs.c1
  have HS := Lib.hid hs
  have HG := Lib.hid h.lt
  have HBL := Lib.hid hb
  have hcx2 : (w.alloc (.cells #[.int .i64 0, .int .u64 0, .slice none 0 0, .slice none 0 0] 42)).cell? ⟨b, o + i, none⟩ = some (.int .u8 (x.toNat : Int)) := by rw [World.cell?_alloc_lt _ _ _ (Nat.lt_trans hb h.lt)]; exact hcx
  have hz : ((i : Int) == (n : Int)) = false := by simp; omega
  have i0' : (0 : Int) ≤ (i : Int) := by omega
  have i1' : (i : Int) < (n : Int) := by omega
  have hn6 := h.hn
  clear hs hy hb hcx
  have hp1 : decide ((4096 : Int) < (p : Int) + 1) = false := decide_eq_false (by omega)
  have hp2 : (p : Int) + 1 ≤ 4096 := by omega
  have C1 := Lib.hid (fun W => begins_any x W)
  rw [ha] at C1
  generalize x.toNat = X at *
  subst hd
  clear hx
  clear h
  go_enter Tryz.func34, Tryz.ntmps34
  go_wp2_with fail
  go_quiet (fail)
  have g0' : ((w.alloc (.cells #[.int .i64 0, .int .u64 0, .slice none 0 0, .slice none 0 0] 42)).drewN nq).cell? ⟨g, 0, none⟩ = some (.slice (some ⟨b, o, none⟩) n c) := g0
  have g1' : ((w.alloc (.cells #[.int .i64 0, .int .u64 0, .slice none 0 0, .slice none 0 0] 42)).drewN nq).cell? ⟨g, 1, none⟩ = some (.int .i64 (i : Int)) := g1
  have hcx3 : ((w.alloc (.cells #[.int .i64 0, .int .u64 0, .slice none 0 0, .slice none 0 0] 42)).drewN nq).cell? ⟨b, o + i, none⟩ = some (.int .u8 (X : Int)) := hcx2
  have HX1 := Lib.hid (below_drewN (w.heap.size + 1) (w.alloc (.cells #[.int .i64 0, .int .u64 0, .slice none 0 0, .slice none 0 0] 42)) nq)
  have HS1 := Lib.hid (HS.out.drewN nq)
  generalize (w.alloc (.cells #[.int .i64 0, .int .u64 0, .slice none 0 0, .slice none 0 0] 42)).drewN nq = W1 at *
  go_wp2_with fail
  go_quiet (fail)
  have HX2 := Lib.hid (HX1.out.trans (below_drewN (w.heap.size + 1) W1 nq))
  have HS2 := Lib.hid (HS1.out.drewN nq)
  have g2' := HS2.out.c2
  have q2' := HS2.out.f2
  generalize W1.drewN nq = W2 at *
  have hs3 := HS2.out.set2 (z := (p : Int) + 1) (p + 1) (by omega)
  have r1 := hs3.c1
  have rf1 := hs3.f1
  have r2 := hs3.c2
  have r3 := hs3.c3
  have e1 : ((p + 1 : Nat) : Int) = (p : Int) + 1 := by omega
  rw [e1] at r2
  have HS3 := Lib.hid hs3
  have HOX := Lib.hid ((Only.of_below (g := g) (show Below (w.alloc (.cells #[.int .i64 0, .int .u64 0, .slice none 0 0, .slice none 0 0] 42)).heap.size (w.alloc (.cells #[.int .i64 0, .int .u64 0, .slice none 0 0, .slice none 0 0] 42)) W2 by have := HX2.out; rwa [show (w.alloc (.cells #[.int .i64 0, .int .u64 0, .slice none 0 0, .slice none 0 0] 42)).heap.size = w.heap.size + 1 by simp])).setCell (p := ⟨g, 2, none⟩) rfl (.int .i64 ((p : Int) + 1)))
  have HOW := Lib.hid (((Only.refl g w).alloc (.cells #[.int .i64 0, .int .u64 0, .slice none 0 0, .slice none 0 0] 42)).trans HOX.out)
  clear hs3 e1 g0 g1 g0' g1' hcx2 hcx3 HX1 HS1
  go_wp2_with fail
  refine (C1.out _).mono ?_
  rintro e w3 ⟨rfl, rfl⟩
  obtain ⟨⟨z0, z1, z2, z3⟩, f0, f1, f2, f3⟩ := zero_only HOX.out HG.out
  go_wp2_with fail
  refine bodyPost_ret (v := .tuple #[noItem, flt 32]) (by simp [results, Tryz.results34, go_sem, z0, z1, z2, z3, noItem, flt]) rfl ⟨rfl, set4_only HOW.out (Nat.le_refl _)⟩

set_option maxRecDepth 100000 in
set_option maxHeartbeats 4000000 in
theorem item_endless (h : RSt w g A n c bs i p d) (hl : i < n) (x : UInt8) (hx : bs.drop i = x :: bs.drop (i + 1)) (hp : p < 4096) (h9 : x = 0x9f) (hd : d < 8) (D' : Nat) (hD : d + 1 + D' = 8) (IH : Hid (ItemIH D')) :
    Calls Tryz.prog 34 #[.pointer (some ⟨g, 0, none⟩)] w (GivesR g A n c bs d (lst 5 (endl (dec D') ((bs.drop (i + 1)).length + 1) (p + 1) (bs.drop (i + 1)))) w) := by
  subst h9
  obtain ⟨b, o, y, rfl, hcx, hy, hb⟩ := h.byte hl
  rw [hx] at hy
  obtain ⟨hyx, -⟩ := List.cons.inj hy
  rw [← hyx, show ((0x9f : UInt8).toNat : Int) = 159 from rfl] at hcx
  have hs := h.alloc (.cells #[.int .i64 0, .int .u64 0, .slice none 0 0, .slice none 0 0] 42)
  have g0 := hs.c0
  have g1 := hs.c1
  have HS := Lib.hid hs
  have HG := Lib.hid h.lt
  have HBL := Lib.hid hb
  have hcx2 : (w.alloc (.cells #[.int .i64 0, .int .u64 0, .slice none 0 0, .slice none 0 0] 42)).cell? ⟨b, o + i, none⟩ = some (.int .u8 159) := by rw [World.cell?_alloc_lt _ _ _ (Nat.lt_trans hb h.lt)]; exact hcx
  have hz : ((i : Int) == (n : Int)) = false := by simp; omega
  have i0' : (0 : Int) ≤ (i : Int) := by omega
  have i1' : (i : Int) < (n : Int) := by omega
  have hn6 := h.hn
  clear hs hy hb hcx
  have hp1 : decide ((4096 : Int) < (p : Int) + 1) = false := decide_eq_false (by omega)
  have hp2 : (p : Int) + 1 ≤ 4096 := by omega
  have C1 := Lib.hid (fun W => begins_any 0x9f W)
  rw [show arrB 0x9f = true from rfl, show ((0x9f : UInt8).toNat : Int) = 159 from rfl] at C1
  have hd8 : ((d : Int) == 8) = false := by simp; omega
  obtain ⟨r, hr⟩ : ∃ r, r = lst 5 (endl (dec D') ((bs.drop (i + 1)).length + 1) (p + 1) (bs.drop (i + 1))) := ⟨_, rfl⟩
  rw [← hr]
  have HR := Lib.hid hr
  clear hx hr hyx
  clear h
  go_enter Tryz.func34, Tryz.ntmps34
  go_wp2_with fail
  go_quiet (fail)
  have g0' : ((w.alloc (.cells #[.int .i64 0, .int .u64 0, .slice none 0 0, .slice none 0 0] 42)).drewN nq).cell? ⟨g, 0, none⟩ = some (.slice (some ⟨b, o, none⟩) n c) := g0
  have g1' : ((w.alloc (.cells #[.int .i64 0, .int .u64 0, .slice none 0 0, .slice none 0 0] 42)).drewN nq).cell? ⟨g, 1, none⟩ = some (.int .i64 (i : Int)) := g1
  have hcx3 : ((w.alloc (.cells #[.int .i64 0, .int .u64 0, .slice none 0 0, .slice none 0 0] 42)).drewN nq).cell? ⟨b, o + i, none⟩ = some (.int .u8 159) := hcx2
  have HX1 := Lib.hid (below_drewN (w.heap.size + 1) (w.alloc (.cells #[.int .i64 0, .int .u64 0, .slice none 0 0, .slice none 0 0] 42)) nq)
  have HS1 := Lib.hid (HS.out.drewN nq)
  generalize (w.alloc (.cells #[.int .i64 0, .int .u64 0, .slice none 0 0, .slice none 0 0] 42)).drewN nq = W1 at *
  go_wp2_with fail
  go_quiet (fail)
  have HX2 := Lib.hid (HX1.out.trans (below_drewN (w.heap.size + 1) W1 nq))
  have HS2 := Lib.hid (HS1.out.drewN nq)
  have g2' := HS2.out.c2
  have q2' := HS2.out.f2
  generalize W1.drewN nq = W2 at *
  have hs3 := HS2.out.set2 (z := (p : Int) + 1) (p + 1) (by omega)
  have r1 := hs3.c1
  have rf1 := hs3.f1
  have r2 := hs3.c2
  have r3 := hs3.c3
  have e1 : ((p + 1 : Nat) : Int) = (p : Int) + 1 := by omega
  rw [e1] at r2
  have HS3 := Lib.hid hs3
  have HOX := Lib.hid ((Only.of_below (g := g) (show Below (w.alloc (.cells #[.int .i64 0, .int .u64 0, .slice none 0 0, .slice none 0 0] 42)).heap.size (w.alloc (.cells #[.int .i64 0, .int .u64 0, .slice none 0 0, .slice none 0 0] 42)) W2 by have := HX2.out; rwa [show (w.alloc (.cells #[.int .i64 0, .int .u64 0, .slice none 0 0, .slice none 0 0] 42)).heap.size = w.heap.size + 1 by simp])).setCell (p := ⟨g, 2, none⟩) rfl (.int .i64 ((p : Int) + 1)))
  have HOW := Lib.hid (((Only.refl g w).alloc (.cells #[.int .i64 0, .int .u64 0, .slice none 0 0, .slice none 0 0] 42)).trans HOX.out)
  clear hs3 e1 g0 g1 g0' g1' hcx2 hcx3 HX1 HS1
  have hs4 := HS3.out.set1 (z := (i : Int) + 1) (i + 1) (by omega) (by omega)
  have HOY := Lib.hid (HOX.out.setCell (p := ⟨g, 1, none⟩) rfl (.int .i64 ((i : Int) + 1)))
  have hc := endless_any IH hD (by omega : p + 1 ≤ 4096) hs4
  rw [← HR.out] at hc
  have HC := Lib.hid hc
  have HZY : Hid (w.heap.size + 1 ≤ ((W2.setCell ⟨g, 2, none⟩ (.int .i64 ((p : Int) + 1))).setCell ⟨g, 1, none⟩ (.int .i64 ((i : Int) + 1))).heap.size) := by show _ ≤ _; have := HOY.out.size; simpa using this
  clear hs4 hc
  go_wp2_with fail
  refine (C1.out _).mono ?_
  rintro e w3 ⟨rfl, rfl⟩
  go_wp2_with fail
  refine HC.out.mono ?_
  rintro e w4 hg4
  rcases r with z | ⟨x2, p2, l2⟩
  · obtain ⟨rfl, ho4⟩ := hg4
    obtain ⟨⟨z0, z1, z2, z3⟩, f0, f1, f2, f3⟩ := zero_only (HOY.out.trans ho4) HG.out
    have HOZ := Lib.hid (((Only.refl g w).alloc (.cells #[.int .i64 0, .int .u64 0, .slice none 0 0, .slice none 0 0] 42)).trans (HOY.out.trans ho4))
    clear ho4
    unfold noItem flt
    go_wp2_with fail
    refine bodyPost_ret (v := .tuple #[noItem, flt z]) (by simp [results, Tryz.results34, go_sem, z0, z1, z2, z3, noItem, flt]) rfl ⟨rfl, set4_only HOZ.out (Nat.le_refl _)⟩
  · obtain ⟨v, i2, rfl, hv, hs4, hl2, ho4⟩ := hg4
    obtain ⟨k1, n1, A1, nd1, cd1, AL1, nl1, cl1, rfl⟩ := hv.form
    obtain ⟨⟨z0, z1, z2, z3⟩, f0, f1, f2, f3⟩ := zero_only (HOY.out.trans ho4) HG.out
    have HOZ := Lib.hid (((Only.refl g w).alloc (.cells #[.int .i64 0, .int .u64 0, .slice none 0 0, .slice none 0 0] 42)).trans (HOY.out.trans ho4))
    have HV := Lib.hid hv
    have HS4 := Lib.hid hs4
    have HL2 := Lib.hid hl2
    clear ho4 hv hs4 hl2
    go_wp2_with fail
    refine bodyPost_ret (v := .tuple #[.agg #[.int .i64 k1, .int .u64 (n1 : Int), .slice A1 nd1 cd1, .slice AL1 nl1 cl1], .nilIface]) (by simp [results, Tryz.results34, go_sem, z0, z1, z2, z3]) rfl ?_
    exact ⟨_, i2, rfl, HV.out.fin (Nat.le_refl _) HZY.out (Nat.le_of_succ_le HZY.out), HS4.out.set4 HG.out, HL2.out, set4_only HOZ.out (Nat.le_refl _)⟩

set_option maxRecDepth 100000 in
set_option maxHeartbeats 4000000 in
theorem item_none (h : RSt w g A n c bs i p d) (hl : i < n) (x : UInt8) (hx : bs.drop i = x :: bs.drop (i + 1)) (hp : p < 4096) (h9 : ¬ x = 0x9f) (ha : arrB x = false) (hb : behV x g = .nilFunc) :
    Calls Tryz.prog 34 #[.pointer (some ⟨g, 0, none⟩)] w fun e w' => e = .returned (.tuple #[noItem, flt 31]) ∧ Only g w w' := by
  obtain ⟨b, o, y, rfl, hcx, hy, hbb⟩ := h.byte hl
  rw [hx] at hy
  obtain ⟨rfl, -⟩ := List.cons.inj hy
  have hs := h.alloc (.cells #[.int .i64 0, .int .u64 0, .slice none 0 0, .slice none 0 0] 42)
  have g0 := hs.c0
  have g1 := hs.c1
  have HS := Lib.hid hs
  have HG := Lib.hid h.lt
  have HBL := Lib.hid hbb
  have hcx2 : (w.alloc (.cells #[.int .i64 0, .int .u64 0, .slice none 0 0, .slice none 0 0] 42)).cell? ⟨b, o + i, none⟩ = some (.int .u8 (x.toNat : Int)) := by rw [World.cell?_alloc_lt _ _ _ (Nat.lt_trans hbb h.lt)]; exact hcx
  have hz : ((i : Int) == (n : Int)) = false := by simp; omega
  have i0' : (0 : Int) ≤ (i : Int) := by omega
  have i1' : (i : Int) < (n : Int) := by omega
  have hn6 := h.hn
  clear hs hy hbb hcx
  have hp1 : decide ((4096 : Int) < (p : Int) + 1) = false := decide_eq_false (by omega)
  have hp2 : (p : Int) + 1 ≤ 4096 := by omega
  have C1 := Lib.hid (fun W => begins_any x W)
  rw [ha] at C1
  have C2 := Lib.hid (fun W => behind_any x g W)
  rw [hb] at C2
  have hx9 : ((x.toNat : Int) == 159) = false := by
    have : x.toNat ≠ 159 := fun e => h9 (UInt8.toNat_inj.1 e)
    simp; omega
  have q77 := eq_nilf
  generalize x.toNat = X at *
  clear hx h9 hb
  clear h
  go_enter Tryz.func34, Tryz.ntmps34
  go_wp2_with fail
  go_quiet (fail)
  have g0' : ((w.alloc (.cells #[.int .i64 0, .int .u64 0, .slice none 0 0, .slice none 0 0] 42)).drewN nq).cell? ⟨g, 0, none⟩ = some (.slice (some ⟨b, o, none⟩) n c) := g0
  have g1' : ((w.alloc (.cells #[.int .i64 0, .int .u64 0, .slice none 0 0, .slice none 0 0] 42)).drewN nq).cell? ⟨g, 1, none⟩ = some (.int .i64 (i : Int)) := g1
  have hcx3 : ((w.alloc (.cells #[.int .i64 0, .int .u64 0, .slice none 0 0, .slice none 0 0] 42)).drewN nq).cell? ⟨b, o + i, none⟩ = some (.int .u8 (X : Int)) := hcx2
  have HX1 := Lib.hid (below_drewN (w.heap.size + 1) (w.alloc (.cells #[.int .i64 0, .int .u64 0, .slice none 0 0, .slice none 0 0] 42)) nq)
  have HS1 := Lib.hid (HS.out.drewN nq)
  generalize (w.alloc (.cells #[.int .i64 0, .int .u64 0, .slice none 0 0, .slice none 0 0] 42)).drewN nq = W1 at *
  go_wp2_with fail
  go_quiet (fail)
  have HX2 := Lib.hid (HX1.out.trans (below_drewN (w.heap.size + 1) W1 nq))
  have HS2 := Lib.hid (HS1.out.drewN nq)
  have g2' := HS2.out.c2
  have q2' := HS2.out.f2
  generalize W1.drewN nq = W2 at *
  have hs3 := HS2.out.set2 (z := (p : Int) + 1) (p + 1) (by omega)
  have r1 := hs3.c1
  have rf1 := hs3.f1
  have r2 := hs3.c2
  have r3 := hs3.c3
  have e1 : ((p + 1 : Nat) : Int) = (p : Int) + 1 := by omega
  rw [e1] at r2
  have HS3 := Lib.hid hs3
  have HOX := Lib.hid ((Only.of_below (g := g) (show Below (w.alloc (.cells #[.int .i64 0, .int .u64 0, .slice none 0 0, .slice none 0 0] 42)).heap.size (w.alloc (.cells #[.int .i64 0, .int .u64 0, .slice none 0 0, .slice none 0 0] 42)) W2 by have := HX2.out; rwa [show (w.alloc (.cells #[.int .i64 0, .int .u64 0, .slice none 0 0, .slice none 0 0] 42)).heap.size = w.heap.size + 1 by simp])).setCell (p := ⟨g, 2, none⟩) rfl (.int .i64 ((p : Int) + 1)))
  have HOW := Lib.hid (((Only.refl g w).alloc (.cells #[.int .i64 0, .int .u64 0, .slice none 0 0, .slice none 0 0] 42)).trans HOX.out)
  clear hs3 e1 g0 g1 g0' g1' hcx2 hcx3 HX1 HS1
  go_wp2_with fail
  refine (C1.out _).mono ?_
  rintro e w3 ⟨rfl, rfl⟩
  go_wp2_with fail
  refine (C2.out _).mono ?_
  rintro e w3 ⟨rfl, rfl⟩
  obtain ⟨⟨z0, z1, z2, z3⟩, f0, f1, f2, f3⟩ := zero_only HOX.out HG.out
  go_wp2_with fail
  refine bodyPost_ret (v := .tuple #[noItem, flt 31]) (by simp [results, Tryz.results34, go_sem, z0, z1, z2, z3, noItem, flt]) rfl ⟨rfl, set4_only HOW.out (Nat.le_refl _)⟩

end
end Go.Proofs.YtbdjkihgcmebgaaGreatDoor
