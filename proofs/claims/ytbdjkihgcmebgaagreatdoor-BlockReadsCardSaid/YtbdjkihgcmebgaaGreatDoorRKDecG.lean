/- What item of layer 3's reader returns, where a head of uint stands. What item of layer 3's reader returns, where a head of bytes stands. What item of layer 3's reader returns, where a head of text stands. What item of layer 3's reader returns, where a head of array stands. -/
import Derived.Test.YtbdjkihgcmebgaaGreatDoorRKDec
namespace Go.Proofs.YtbdjkihgcmebgaaGreatDoor
open Go.RowKit

section
variable {w : World} {g n c i p d D : Nat} {A : Option Addr} {bs : List UInt8} {sub : Nat → List UInt8 → Except Int (Itm × Nat × List UInt8)} {deep : Bool}

set_option maxRecDepth 100000 in
set_option maxHeartbeats 4000000 in
theorem item_go_uint (h : RSt w g A n c bs i p d) (hl : i < n) (x : UInt8) (hx : bs.drop i = x :: bs.drop (i + 1)) (hp : p < 4096) (h9 : ¬ x = 0x9f) (ha : arrB x = false) (hb : behV x g = .func (.func 77) #[.pointer (some ⟨g, 0, none⟩)] #[]) (h27 : x.toNat % 32 ≤ 27) (hm : x.toNat / 32 = 0 ∨ x.toNat / 32 = 2 ∨ x.toNat / 32 = 3 ∨ x.toNat / 32 = 4)
    (HK : Hid (∀ (W : World) (i' p1 num : Nat), RSt W g A n c bs i' p1 d → num < 18446744073709551616 → p1 ≤ 4096 → Calls Tryz.prog 77 #[.pointer (some ⟨g, 0, none⟩), .int .u64 (num : Int)] W (GivesR g A n c bs d (kindR sub (x.toNat / 32) num p1 (bs.drop i')) W))) :
    Calls Tryz.prog 34 #[.pointer (some ⟨g, 0, none⟩)] w (GivesR g A n c bs d (tailR sub (p + 1) (headD (bs.drop i))) w) := by
  obtain ⟨b, o, y, rfl, hcx, hy, hbb⟩ := h.byte hl
  rw [hx] at hy
  obtain ⟨rfl, -⟩ := List.cons.inj hy
  have hs := h.alloc (.cells #[.int .i64 0, .int .u64 0, .slice none 0 0, .slice none 0 0] 42)
  have g0 := hs.c0
  have g1 := hs.c1
  have HS := Lib.hid hs
  have HG := Lib.hid h.lt
  have HBL := Lib.hid hbb
  have hcx2 : (w.alloc (.cells #[.int .i64 0, .int .u64 0, .slice none 0 0, .slice none 0 0] 42)).cell? ⟨b, o + i, none⟩ = some (.int .u8 (x.toNat : Int)) := by rw [World.cell?_alloc_lt _ _ _ (Nat.lt_trans hbb h.lt)]; exact hcx
  have hz : ((i : Int) == (n : Int)) = false := by simp; omega
  have i0' : (0 : Int) ≤ (i : Int) := by omega
  have i1' : (i : Int) < (n : Int) := by omega
  have hn6 := h.hn
  clear hs hy hbb hcx
  have hp1 : decide ((4096 : Int) < (p : Int) + 1) = false := decide_eq_false (by omega)
  have hp2 : (p : Int) + 1 ≤ 4096 := by omega
  have C1 := Lib.hid (fun W => begins_any x W)
  rw [ha] at C1
  have C2 := Lib.hid (fun W => behind_any x g W)
  rw [hb] at C2
  have hx9 : ((x.toNat : Int) == 159) = false := by
    have : x.toNat ≠ 159 := fun e => h9 (UInt8.toNat_inj.1 e)
    simp; omega
  have q77 := eq_nilf
  have q78 := eq_somef
  have C3 := Lib.hid (fun W (hs : RSt W g (some ⟨b, o, none⟩) n c bs i (p + 1) d) => head_any hs hl x hx h27 hm)
  obtain ⟨rh, hrh⟩ : ∃ rh, rh = headD (bs.drop i) := ⟨_, rfl⟩
  have hmaj : ∀ m num r', rh = .ok (m, num, r') → m = x.toNat / 32 ∧ num < 18446744073709551616 := fun m num r' e => by
    rw [hrh, hx] at e
    exact headD_maj e
  rw [← hrh] at C3 ⊢
  obtain ⟨r, hr⟩ : ∃ r, r = tailR sub (p + 1) rh := ⟨_, rfl⟩
  rw [← hr]
  have HR := Lib.hid hr
  have HMAJ := Lib.hid hmaj
  generalize x.toNat = X at *
  clear hx h9 hb hrh hr hmaj h27 hm
  clear h
  go_enter Tryz.func34, Tryz.ntmps34
  go_wp2_with fail
  go_quiet (fail)
  have g0' : ((w.alloc (.cells #[.int .i64 0, .int .u64 0, .slice none 0 0, .slice none 0 0] 42)).drewN nq).cell? ⟨g, 0, none⟩ = some (.slice (some ⟨b, o, none⟩) n c) := g0
  have g1' : ((w.alloc (.cells #[.int .i64 0, .int .u64 0, .slice none 0 0, .slice none 0 0] 42)).drewN nq).cell? ⟨g, 1, none⟩ = some (.int .i64 (i : Int)) := g1
  have hcx3 : ((w.alloc (.cells #[.int .i64 0, .int .u64 0, .slice none 0 0, .slice none 0 0] 42)).drewN nq).cell? ⟨b, o + i, none⟩ = some (.int .u8 (X : Int)) := hcx2
  have HX1 := Lib.hid (below_drewN (w.heap.size + 1) (w.alloc (.cells #[.int .i64 0, .int .u64 0, .slice none 0 0, .slice none 0 0] 42)) nq)
  have HS1 := Lib.hid (HS.out.drewN nq)
  generalize (w.alloc (.cells #[.int .i64 0, .int .u64 0, .slice none 0 0, .slice none 0 0] 42)).drewN nq = W1 at *
  go_wp2_with fail
  go_quiet (fail)
  have HX2 := Lib.hid (HX1.out.trans (below_drewN (w.heap.size + 1) W1 nq))
  have HS2 := Lib.hid (HS1.out.drewN nq)
  have g2' := HS2.out.c2
  have q2' := HS2.out.f2
  generalize W1.drewN nq = W2 at *
  have hs3 := HS2.out.set2 (z := (p : Int) + 1) (p + 1) (by omega)
  have r1 := hs3.c1
  have rf1 := hs3.f1
  have r2 := hs3.c2
  have r3 := hs3.c3
  have e1 : ((p + 1 : Nat) : Int) = (p : Int) + 1 := by omega
  rw [e1] at r2
  have HS3 := Lib.hid hs3
  have HOX := Lib.hid ((Only.of_below (g := g) (show Below (w.alloc (.cells #[.int .i64 0, .int .u64 0, .slice none 0 0, .slice none 0 0] 42)).heap.size (w.alloc (.cells #[.int .i64 0, .int .u64 0, .slice none 0 0, .slice none 0 0] 42)) W2 by have := HX2.out; rwa [show (w.alloc (.cells #[.int .i64 0, .int .u64 0, .slice none 0 0, .slice none 0 0] 42)).heap.size = w.heap.size + 1 by simp])).setCell (p := ⟨g, 2, none⟩) rfl (.int .i64 ((p : Int) + 1)))
  have HOW := Lib.hid (((Only.refl g w).alloc (.cells #[.int .i64 0, .int .u64 0, .slice none 0 0, .slice none 0 0] 42)).trans HOX.out)
  clear hs3 e1 g0 g1 g0' g1' hcx2 hcx3 HX1 HS1
  go_wp2_with fail
  refine (C1.out _).mono ?_
  rintro e w3 ⟨rfl, rfl⟩
  go_wp2_with fail
  refine (C2.out _).mono ?_
  rintro e w3 ⟨rfl, rfl⟩
  have HC3 := Lib.hid (C3.out _ HS3.out)
  clear C3
  go_wp2_with fail
  refine HC3.out.mono ?_
  rintro e w4 hg4
  rcases rh with z | ⟨m, num, r'⟩
  · obtain ⟨rfl, ho4⟩ := hg4
    obtain ⟨⟨z0, z1, z2, z3⟩, f0, f1, f2, f3⟩ := zero_only (HOX.out.trans ho4) HG.out
    have HOZ := Lib.hid (HOW.out.trans ho4)
    clear ho4
    unfold flt
    go_wp2_with fail
    rw [HR.out]
    refine bodyPost_ret (v := .tuple #[noItem, flt z]) (by simp [results, Tryz.results34, go_sem, z0, z1, z2, z3, noItem, flt]) rfl ⟨rfl, set4_only HOZ.out (Nat.le_refl _)⟩
  · obtain ⟨i2, rfl, hs4, hl2, ho4⟩ := hg4
    obtain ⟨hm1, hm2⟩ := HMAJ.out m num r' rfl
    have hk := HK.out w4 i2 (p + 1) num hs4 hm2 (by omega)
    have hrr : kindR sub (X / 32) num (p + 1) (bs.drop i2) = r := by rw [HR.out, tailR, hm1, hl2]
    rw [hrr] at hk
    have HKK := Lib.hid hk
    have HOY := Lib.hid (HOX.out.trans ho4)
    have HZY : Hid (w.heap.size + 1 ≤ w4.heap.size) := by show _ ≤ _; have := HOY.out.size; simpa using this
    clear hs4 hl2 ho4 hm1 hm2 hk hrr
    rcases r with z | ⟨x2, p2, l2⟩
    · have HKE : Hid (Calls Tryz.prog 77 #[.pointer (some ⟨g, 0, none⟩), .int .u64 (num : Int)] w4 fun e w' => e = .returned (.tuple #[.agg #[.int .i64 0, .int .u64 0, .slice none 0 0, .slice none 0 0], .iface 107 (.agg #[.int .i64 z])]) ∧ Only g w4 w') := HKK
      go_wp2_with (first | (go_at_call 77; refine HKE.out.mono ?_; rintro e w5 ⟨rfl, ho5⟩; obtain ⟨⟨z0, z1, z2, z3⟩, f0, f1, f2, f3⟩ := zero_only (HOY.out.trans ho5) HG.out; have HOZ := Lib.hid (((Only.refl g w).alloc (.cells #[.int .i64 0, .int .u64 0, .slice none 0 0, .slice none 0 0] 42)).trans (HOY.out.trans ho5)); clear ho5) | fail)
      refine bodyPost_ret (v := .tuple #[noItem, flt z]) (by simp [results, Tryz.results34, go_sem, z0, z1, z2, z3, noItem, flt]) rfl ⟨rfl, set4_only HOZ.out (Nat.le_refl _)⟩
    · go_wp2_with (first | (go_at_call 77; refine HKK.out.mono ?_; rintro e w5 ⟨v, i5, rfl, hv, hs5, hl5, ho5⟩; obtain ⟨k1, n1, A1, nd1, cd1, AL1, nl1, cl1, rfl⟩ := hv.form; obtain ⟨⟨z0, z1, z2, z3⟩, f0, f1, f2, f3⟩ := zero_only (HOY.out.trans ho5) HG.out; have HOZ := Lib.hid (((Only.refl g w).alloc (.cells #[.int .i64 0, .int .u64 0, .slice none 0 0, .slice none 0 0] 42)).trans (HOY.out.trans ho5)); have HV := Lib.hid hv; have HS5 := Lib.hid hs5; have HL5 := Lib.hid hl5; clear ho5 hv hs5 hl5) | fail)
      refine bodyPost_ret (v := .tuple #[.agg #[.int .i64 k1, .int .u64 (n1 : Int), .slice A1 nd1 cd1, .slice AL1 nl1 cl1], .nilIface]) (by simp [results, Tryz.results34, go_sem, z0, z1, z2, z3]) rfl ?_
      exact ⟨_, i5, rfl, HV.out.fin (Nat.le_refl _) HZY.out (Nat.le_of_succ_le HZY.out), HS5.out.set4 HG.out, HL5.out, set4_only HOZ.out (Nat.le_refl _)⟩
end

section
variable {w : World} {g n c i p d D : Nat} {A : Option Addr} {bs : List UInt8} {sub : Nat → List UInt8 → Except Int (Itm × Nat × List UInt8)} {deep : Bool}

set_option maxRecDepth 100000 in
set_option maxHeartbeats 4000000 in
theorem item_go_bytes (h : RSt w g A n c bs i p d) (hl : i < n) (x : UInt8) (hx : bs.drop i = x :: bs.drop (i + 1)) (hp : p < 4096) (h9 : ¬ x = 0x9f) (ha : arrB x = false) (hb : behV x g = .func (.func 78) #[.pointer (some ⟨g, 0, none⟩)] #[]) (h27 : x.toNat % 32 ≤ 27) (hm : x.toNat / 32 = 0 ∨ x.toNat / 32 = 2 ∨ x.toNat / 32 = 3 ∨ x.toNat / 32 = 4)
    (HK : Hid (∀ (W : World) (i' p1 num : Nat), RSt W g A n c bs i' p1 d → num < 18446744073709551616 → p1 ≤ 4096 → Calls Tryz.prog 78 #[.pointer (some ⟨g, 0, none⟩), .int .u64 (num : Int)] W (GivesR g A n c bs d (kindR sub (x.toNat / 32) num p1 (bs.drop i')) W))) :
    Calls Tryz.prog 34 #[.pointer (some ⟨g, 0, none⟩)] w (GivesR g A n c bs d (tailR sub (p + 1) (headD (bs.drop i))) w) := by
  obtain ⟨b, o, y, rfl, hcx, hy, hbb⟩ := h.byte hl
  rw [hx] at hy
  obtain ⟨rfl, -⟩ := List.cons.inj hy
  have hs := h.alloc (.cells #[.int .i64 0, .int .u64 0, .slice none 0 0, .slice none 0 0] 42)
  have g0 := hs.c0
  have g1 := hs.c1
  have HS := Lib.hid hs
  have HG := Lib.hid h.lt
  have HBL := Lib.hid hbb
  have hcx2 : (w.alloc (.cells #[.int .i64 0, .int .u64 0, .slice none 0 0, .slice none 0 0] 42)).cell? ⟨b, o + i, none⟩ = some (.int .u8 (x.toNat : Int)) := by rw [World.cell?_alloc_lt _ _ _ (Nat.lt_trans hbb h.lt)]; exact hcx
  have hz : ((i : Int) == (n : Int)) = false := by simp; omega
  have i0' : (0 : Int) ≤ (i : Int) := by omega
  have i1' : (i : Int) < (n : Int) := by omega
  have hn6 := h.hn
  clear hs hy hbb hcx
  have hp1 : decide ((4096 : Int) < (p : Int) + 1) = false := decide_eq_false (by omega)
  have hp2 : (p : Int) + 1 ≤ 4096 := by omega
  have C1 := Lib.hid (fun W => begins_any x W)
  rw [ha] at C1
  have C2 := Lib.hid (fun W => behind_any x g W)
  rw [hb] at C2
  have hx9 : ((x.toNat : Int) == 159) = false := by
    have : x.toNat ≠ 159 := fun e => h9 (UInt8.toNat_inj.1 e)
    simp; omega
  have q77 := eq_nilf
  have q78 := eq_somef
  have C3 := Lib.hid (fun W (hs : RSt W g (some ⟨b, o, none⟩) n c bs i (p + 1) d) => head_any hs hl x hx h27 hm)
  obtain ⟨rh, hrh⟩ : ∃ rh, rh = headD (bs.drop i) := ⟨_, rfl⟩
  have hmaj : ∀ m num r', rh = .ok (m, num, r') → m = x.toNat / 32 ∧ num < 18446744073709551616 := fun m num r' e => by
    rw [hrh, hx] at e
    exact headD_maj e
  rw [← hrh] at C3 ⊢
  obtain ⟨r, hr⟩ : ∃ r, r = tailR sub (p + 1) rh := ⟨_, rfl⟩
  rw [← hr]
  have HR := Lib.hid hr
  have HMAJ := Lib.hid hmaj
  generalize x.toNat = X at *
  clear hx h9 hb hrh hr hmaj h27 hm
  clear h
  go_enter Tryz.func34, Tryz.ntmps34
  go_wp2_with fail
  go_quiet (fail)
  have g0' : ((w.alloc (.cells #[.int .i64 0, .int .u64 0, .slice none 0 0, .slice none 0 0] 42)).drewN nq).cell? ⟨g, 0, none⟩ = some (.slice (some ⟨b, o, none⟩) n c) := g0
  have g1' : ((w.alloc (.cells #[.int .i64 0, .int .u64 0, .slice none 0 0, .slice none 0 0] 42)).drewN nq).cell? ⟨g, 1, none⟩ = some (.int .i64 (i : Int)) := g1
  have hcx3 : ((w.alloc (.cells #[.int .i64 0, .int .u64 0, .slice none 0 0, .slice none 0 0] 42)).drewN nq).cell? ⟨b, o + i, none⟩ = some (.int .u8 (X : Int)) := hcx2
  have HX1 := Lib.hid (below_drewN (w.heap.size + 1) (w.alloc (.cells #[.int .i64 0, .int .u64 0, .slice none 0 0, .slice none 0 0] 42)) nq)
  have HS1 := Lib.hid (HS.out.drewN nq)
  generalize (w.alloc (.cells #[.int .i64 0, .int .u64 0, .slice none 0 0, .slice none 0 0] 42)).drewN nq = W1 at *
  go_wp2_with fail
  go_quiet (fail)
  have HX2 := Lib.hid (HX1.out.trans (below_drewN (w.heap.size + 1) W1 nq))
  have HS2 := Lib.hid (HS1.out.drewN nq)
  have g2' := HS2.out.c2
  have q2' := HS2.out.f2
  generalize W1.drewN nq = W2 at *
  have hs3 := HS2.out.set2 (z := (p : Int) + 1) (p + 1) (by omega)
  have r1 := hs3.c1
  have rf1 := hs3.f1
  have r2 := hs3.c2
  have r3 := hs3.c3
  have e1 : ((p + 1 : Nat) : Int) = (p : Int) + 1 := by omega
  rw [e1] at r2
  have HS3 := Lib.hid hs3
  have HOX := Lib.hid ((Only.of_below (g := g) (show Below (w.alloc (.cells #[.int .i64 0, .int .u64 0, .slice none 0 0, .slice none 0 0] 42)).heap.size (w.alloc (.cells #[.int .i64 0, .int .u64 0, .slice none 0 0, .slice none 0 0] 42)) W2 by have := HX2.out; rwa [show (w.alloc (.cells #[.int .i64 0, .int .u64 0, .slice none 0 0, .slice none 0 0] 42)).heap.size = w.heap.size + 1 by simp])).setCell (p := ⟨g, 2, none⟩) rfl (.int .i64 ((p : Int) + 1)))
  have HOW := Lib.hid (((Only.refl g w).alloc (.cells #[.int .i64 0, .int .u64 0, .slice none 0 0, .slice none 0 0] 42)).trans HOX.out)
  clear hs3 e1 g0 g1 g0' g1' hcx2 hcx3 HX1 HS1
  go_wp2_with fail
  refine (C1.out _).mono ?_
  rintro e w3 ⟨rfl, rfl⟩
  go_wp2_with fail
  refine (C2.out _).mono ?_
  rintro e w3 ⟨rfl, rfl⟩
  have HC3 := Lib.hid (C3.out _ HS3.out)
  clear C3
  go_wp2_with fail
  refine HC3.out.mono ?_
  rintro e w4 hg4
  rcases rh with z | ⟨m, num, r'⟩
  · obtain ⟨rfl, ho4⟩ := hg4
    obtain ⟨⟨z0, z1, z2, z3⟩, f0, f1, f2, f3⟩ := zero_only (HOX.out.trans ho4) HG.out
    have HOZ := Lib.hid (HOW.out.trans ho4)
    clear ho4
    unfold flt
    go_wp2_with fail
    rw [HR.out]
    refine bodyPost_ret (v := .tuple #[noItem, flt z]) (by simp [results, Tryz.results34, go_sem, z0, z1, z2, z3, noItem, flt]) rfl ⟨rfl, set4_only HOZ.out (Nat.le_refl _)⟩
  · obtain ⟨i2, rfl, hs4, hl2, ho4⟩ := hg4
    obtain ⟨hm1, hm2⟩ := HMAJ.out m num r' rfl
    have hk := HK.out w4 i2 (p + 1) num hs4 hm2 (by omega)
    have hrr : kindR sub (X / 32) num (p + 1) (bs.drop i2) = r := by rw [HR.out, tailR, hm1, hl2]
    rw [hrr] at hk
    have HKK := Lib.hid hk
    have HOY := Lib.hid (HOX.out.trans ho4)
    have HZY : Hid (w.heap.size + 1 ≤ w4.heap.size) := by show _ ≤ _; have := HOY.out.size; simpa using this
    clear hs4 hl2 ho4 hm1 hm2 hk hrr
    rcases r with z | ⟨x2, p2, l2⟩
    · have HKE : Hid (Calls Tryz.prog 78 #[.pointer (some ⟨g, 0, none⟩), .int .u64 (num : Int)] w4 fun e w' => e = .returned (.tuple #[.agg #[.int .i64 0, .int .u64 0, .slice none 0 0, .slice none 0 0], .iface 107 (.agg #[.int .i64 z])]) ∧ Only g w4 w') := HKK
      go_wp2_with (first | (go_at_call 78; refine HKE.out.mono ?_; rintro e w5 ⟨rfl, ho5⟩; obtain ⟨⟨z0, z1, z2, z3⟩, f0, f1, f2, f3⟩ := zero_only (HOY.out.trans ho5) HG.out; have HOZ := Lib.hid (((Only.refl g w).alloc (.cells #[.int .i64 0, .int .u64 0, .slice none 0 0, .slice none 0 0] 42)).trans (HOY.out.trans ho5)); clear ho5) | fail)
      refine bodyPost_ret (v := .tuple #[noItem, flt z]) (by simp [results, Tryz.results34, go_sem, z0, z1, z2, z3, noItem, flt]) rfl ⟨rfl, set4_only HOZ.out (Nat.le_refl _)⟩
    · go_wp2_with (first | (go_at_call 78; refine HKK.out.mono ?_; rintro e w5 ⟨v, i5, rfl, hv, hs5, hl5, ho5⟩; obtain ⟨k1, n1, A1, nd1, cd1, AL1, nl1, cl1, rfl⟩ := hv.form; obtain ⟨⟨z0, z1, z2, z3⟩, f0, f1, f2, f3⟩ := zero_only (HOY.out.trans ho5) HG.out; have HOZ := Lib.hid (((Only.refl g w).alloc (.cells #[.int .i64 0, .int .u64 0, .slice none 0 0, .slice none 0 0] 42)).trans (HOY.out.trans ho5)); have HV := Lib.hid hv; have HS5 := Lib.hid hs5; have HL5 := Lib.hid hl5; clear ho5 hv hs5 hl5) | fail)
      refine bodyPost_ret (v := .tuple #[.agg #[.int .i64 k1, .int .u64 (n1 : Int), .slice A1 nd1 cd1, .slice AL1 nl1 cl1], .nilIface]) (by simp [results, Tryz.results34, go_sem, z0, z1, z2, z3]) rfl ?_
      exact ⟨_, i5, rfl, HV.out.fin (Nat.le_refl _) HZY.out (Nat.le_of_succ_le HZY.out), HS5.out.set4 HG.out, HL5.out, set4_only HOZ.out (Nat.le_refl _)⟩
end

section
variable {w : World} {g n c i p d D : Nat} {A : Option Addr} {bs : List UInt8} {sub : Nat → List UInt8 → Except Int (Itm × Nat × List UInt8)} {deep : Bool}

set_option maxRecDepth 100000 in
set_option maxHeartbeats 4000000 in
theorem item_go_text (h : RSt w g A n c bs i p d) (hl : i < n) (x : UInt8) (hx : bs.drop i = x :: bs.drop (i + 1)) (hp : p < 4096) (h9 : ¬ x = 0x9f) (ha : arrB x = false) (hb : behV x g = .func (.func 79) #[.pointer (some ⟨g, 0, none⟩)] #[]) (h27 : x.toNat % 32 ≤ 27) (hm : x.toNat / 32 = 0 ∨ x.toNat / 32 = 2 ∨ x.toNat / 32 = 3 ∨ x.toNat / 32 = 4)
    (HK : Hid (∀ (W : World) (i' p1 num : Nat), RSt W g A n c bs i' p1 d → num < 18446744073709551616 → p1 ≤ 4096 → Calls Tryz.prog 79 #[.pointer (some ⟨g, 0, none⟩), .int .u64 (num : Int)] W (GivesR g A n c bs d (kindR sub (x.toNat / 32) num p1 (bs.drop i')) W))) :
    Calls Tryz.prog 34 #[.pointer (some ⟨g, 0, none⟩)] w (GivesR g A n c bs d (tailR sub (p + 1) (headD (bs.drop i))) w) := by
  obtain ⟨b, o, y, rfl, hcx, hy, hbb⟩ := h.byte hl
  rw [hx] at hy
  obtain ⟨rfl, -⟩ := List.cons.inj hy
  have hs := h.alloc (.cells #[.int .i64 0, .int .u64 0, .slice none 0 0, .slice none 0 0] 42)
  have g0 := hs.c0
  have g1 := hs.c1
  have HS := Lib.hid hs
  have HG := Lib.hid h.lt
  have HBL := Lib.hid hbb
  have hcx2 : (w.alloc (.cells #[.int .i64 0, .int .u64 0, .slice none 0 0, .slice none 0 0] 42)).cell? ⟨b, o + i, none⟩ = some (.int .u8 (x.toNat : Int)) := by rw [World.cell?_alloc_lt _ _ _ (Nat.lt_trans hbb h.lt)]; exact hcx
  have hz : ((i : Int) == (n : Int)) = false := by simp; omega
  have i0' : (0 : Int) ≤ (i : Int) := by omega
  have i1' : (i : Int) < (n : Int) := by omega
  have hn6 := h.hn
  clear hs hy hbb hcx
  have hp1 : decide ((4096 : Int) < (p : Int) + 1) = false := decide_eq_false (by omega)
  have hp2 : (p : Int) + 1 ≤ 4096 := by omega
  have C1 := Lib.hid (fun W => begins_any x W)
  rw [ha] at C1
  have C2 := Lib.hid (fun W => behind_any x g W)
  rw [hb] at C2
  have hx9 : ((x.toNat : Int) == 159) = false := by
    have : x.toNat ≠ 159 := fun e => h9 (UInt8.toNat_inj.1 e)
    simp; omega
  have q77 := eq_nilf
  have q78 := eq_somef
  have C3 := Lib.hid (fun W (hs : RSt W g (some ⟨b, o, none⟩) n c bs i (p + 1) d) => head_any hs hl x hx h27 hm)
  obtain ⟨rh, hrh⟩ : ∃ rh, rh = headD (bs.drop i) := ⟨_, rfl⟩
  have hmaj : ∀ m num r', rh = .ok (m, num, r') → m = x.toNat / 32 ∧ num < 18446744073709551616 := fun m num r' e => by
    rw [hrh, hx] at e
    exact headD_maj e
  rw [← hrh] at C3 ⊢
  obtain ⟨r, hr⟩ : ∃ r, r = tailR sub (p + 1) rh := ⟨_, rfl⟩
  rw [← hr]
  have HR := Lib.hid hr
  have HMAJ := Lib.hid hmaj
  generalize x.toNat = X at *
  clear hx h9 hb hrh hr hmaj h27 hm
  clear h
  go_enter Tryz.func34, Tryz.ntmps34
  go_wp2_with fail
  go_quiet (fail)
  have g0' : ((w.alloc (.cells #[.int .i64 0, .int .u64 0, .slice none 0 0, .slice none 0 0] 42)).drewN nq).cell? ⟨g, 0, none⟩ = some (.slice (some ⟨b, o, none⟩) n c) := g0
  have g1' : ((w.alloc (.cells #[.int .i64 0, .int .u64 0, .slice none 0 0, .slice none 0 0] 42)).drewN nq).cell? ⟨g, 1, none⟩ = some (.int .i64 (i : Int)) := g1
  have hcx3 : ((w.alloc (.cells #[.int .i64 0, .int .u64 0, .slice none 0 0, .slice none 0 0] 42)).drewN nq).cell? ⟨b, o + i, none⟩ = some (.int .u8 (X : Int)) := hcx2
  have HX1 := Lib.hid (below_drewN (w.heap.size + 1) (w.alloc (.cells #[.int .i64 0, .int .u64 0, .slice none 0 0, .slice none 0 0] 42)) nq)
  have HS1 := Lib.hid (HS.out.drewN nq)
  generalize (w.alloc (.cells #[.int .i64 0, .int .u64 0, .slice none 0 0, .slice none 0 0] 42)).drewN nq = W1 at *
  go_wp2_with fail
  go_quiet (fail)
  have HX2 := Lib.hid (HX1.out.trans (below_drewN (w.heap.size + 1) W1 nq))
  have HS2 := Lib.hid (HS1.out.drewN nq)
  have g2' := HS2.out.c2
  have q2' := HS2.out.f2
  generalize W1.drewN nq = W2 at *
  have hs3 := HS2.out.set2 (z := (p : Int) + 1) (p + 1) (by omega)
  have r1 := hs3.c1
  have rf1 := hs3.f1
  have r2 := hs3.c2
  have r3 := hs3.c3
  have e1 : ((p + 1 : Nat) : Int) = (p : Int) + 1 := by omega
  rw [e1] at r2
  have HS3 := Lib.hid hs3
  have HOX := Lib.hid ((Only.of_below (g := g) (show Below (w.alloc (.cells #[.int .i64 0, .int .u64 0, .slice none 0 0, .slice none 0 0] 42)).heap.size (w.alloc (.cells #[.int .i64 0, .int .u64 0, .slice none 0 0, .slice none 0 0] 42)) W2 by have := HX2.out; rwa [show (w.alloc (.cells #[.int .i64 0, .int .u64 0, .slice none 0 0, .slice none 0 0] 42)).heap.size = w.heap.size + 1 by simp])).setCell (p := ⟨g, 2, none⟩) rfl (.int .i64 ((p : Int) + 1)))
  have HOW := Lib.hid (((Only.refl g w).alloc (.cells #[.int .i64 0, .int .u64 0, .slice none 0 0, .slice none 0 0] 42)).trans HOX.out)
  clear hs3 e1 g0 g1 g0' g1' hcx2 hcx3 HX1 HS1
  go_wp2_with fail
  refine (C1.out _).mono ?_
  rintro e w3 ⟨rfl, rfl⟩
  go_wp2_with fail
  refine (C2.out _).mono ?_
  rintro e w3 ⟨rfl, rfl⟩
  have HC3 := Lib.hid (C3.out _ HS3.out)
  clear C3
  go_wp2_with fail
  refine HC3.out.mono ?_
  rintro e w4 hg4
  rcases rh with z | ⟨m, num, r'⟩
  · obtain ⟨rfl, ho4⟩ := hg4
    obtain ⟨⟨z0, z1, z2, z3⟩, f0, f1, f2, f3⟩ := zero_only (HOX.out.trans ho4) HG.out
    have HOZ := Lib.hid (HOW.out.trans ho4)
    clear ho4
    unfold flt
    go_wp2_with fail
    rw [HR.out]
    refine bodyPost_ret (v := .tuple #[noItem, flt z]) (by simp [results, Tryz.results34, go_sem, z0, z1, z2, z3, noItem, flt]) rfl ⟨rfl, set4_only HOZ.out (Nat.le_refl _)⟩
  · obtain ⟨i2, rfl, hs4, hl2, ho4⟩ := hg4
    obtain ⟨hm1, hm2⟩ := HMAJ.out m num r' rfl
    have hk := HK.out w4 i2 (p + 1) num hs4 hm2 (by omega)
    have hrr : kindR sub (X / 32) num (p + 1) (bs.drop i2) = r := by rw [HR.out, tailR, hm1, hl2]
    rw [hrr] at hk
    have HKK := Lib.hid hk
    have HOY := Lib.hid (HOX.out.trans ho4)
    have HZY : Hid (w.heap.size + 1 ≤ w4.heap.size) := by show _ ≤ _; have := HOY.out.size; simpa using this
    clear hs4 hl2 ho4 hm1 hm2 hk hrr
    rcases r with z | ⟨x2, p2, l2⟩
    · have HKE : Hid (Calls Tryz.prog 79 #[.pointer (some ⟨g, 0, none⟩), .int .u64 (num : Int)] w4 fun e w' => e = .returned (.tuple #[.agg #[.int .i64 0, .int .u64 0, .slice none 0 0, .slice none 0 0], .iface 107 (.agg #[.int .i64 z])]) ∧ Only g w4 w') := HKK
      go_wp2_with (first | (go_at_call 79; refine HKE.out.mono ?_; rintro e w5 ⟨rfl, ho5⟩; obtain ⟨⟨z0, z1, z2, z3⟩, f0, f1, f2, f3⟩ := zero_only (HOY.out.trans ho5) HG.out; have HOZ := Lib.hid (((Only.refl g w).alloc (.cells #[.int .i64 0, .int .u64 0, .slice none 0 0, .slice none 0 0] 42)).trans (HOY.out.trans ho5)); clear ho5) | fail)
      refine bodyPost_ret (v := .tuple #[noItem, flt z]) (by simp [results, Tryz.results34, go_sem, z0, z1, z2, z3, noItem, flt]) rfl ⟨rfl, set4_only HOZ.out (Nat.le_refl _)⟩
    · go_wp2_with (first | (go_at_call 79; refine HKK.out.mono ?_; rintro e w5 ⟨v, i5, rfl, hv, hs5, hl5, ho5⟩; obtain ⟨k1, n1, A1, nd1, cd1, AL1, nl1, cl1, rfl⟩ := hv.form; obtain ⟨⟨z0, z1, z2, z3⟩, f0, f1, f2, f3⟩ := zero_only (HOY.out.trans ho5) HG.out; have HOZ := Lib.hid (((Only.refl g w).alloc (.cells #[.int .i64 0, .int .u64 0, .slice none 0 0, .slice none 0 0] 42)).trans (HOY.out.trans ho5)); have HV := Lib.hid hv; have HS5 := Lib.hid hs5; have HL5 := Lib.hid hl5; clear ho5 hv hs5 hl5) | fail)
      refine bodyPost_ret (v := .tuple #[.agg #[.int .i64 k1, .int .u64 (n1 : Int), .slice A1 nd1 cd1, .slice AL1 nl1 cl1], .nilIface]) (by simp [results, Tryz.results34, go_sem, z0, z1, z2, z3]) rfl ?_
      exact ⟨_, i5, rfl, HV.out.fin (Nat.le_refl _) HZY.out (Nat.le_of_succ_le HZY.out), HS5.out.set4 HG.out, HL5.out, set4_only HOZ.out (Nat.le_refl _)⟩
end

section
variable {w : World} {g n c i p d D : Nat} {A : Option Addr} {bs : List UInt8} {sub : Nat → List UInt8 → Except Int (Itm × Nat × List UInt8)} {deep : Bool}

set_option maxRecDepth 100000 in
set_option maxHeartbeats 4000000 in
theorem item_go_array (h : RSt w g A n c bs i p d) (hl : i < n) (x : UInt8) (hx : bs.drop i = x :: bs.drop (i + 1)) (hp : p < 4096) (h9 : ¬ x = 0x9f) (ha : arrB x = true) (hd : d < 8) (hb : behV x g = .func (.func 80) #[.pointer (some ⟨g, 0, none⟩)] #[]) (h27 : x.toNat % 32 ≤ 27) (hm : x.toNat / 32 = 0 ∨ x.toNat / 32 = 2 ∨ x.toNat / 32 = 3 ∨ x.toNat / 32 = 4)
    (HK : Hid (∀ (W : World) (i' p1 num : Nat), RSt W g A n c bs i' p1 d → num < 18446744073709551616 → p1 ≤ 4096 → Calls Tryz.prog 80 #[.pointer (some ⟨g, 0, none⟩), .int .u64 (num : Int)] W (GivesR g A n c bs d (kindR sub (x.toNat / 32) num p1 (bs.drop i')) W))) :
    Calls Tryz.prog 34 #[.pointer (some ⟨g, 0, none⟩)] w (GivesR g A n c bs d (tailR sub (p + 1) (headD (bs.drop i))) w) := by
  obtain ⟨b, o, y, rfl, hcx, hy, hbb⟩ := h.byte hl
  rw [hx] at hy
  obtain ⟨rfl, -⟩ := List.cons.inj hy
  have hs := h.alloc (.cells #[.int .i64 0, .int .u64 0, .slice none 0 0, .slice none 0 0] 42)
  have g0 := hs.c0
  have g1 := hs.c1
  have HS := Lib.hid hs
  have HG := Lib.hid h.lt
  have HBL := Lib.hid hbb
  have hcx2 : (w.alloc (.cells #[.int .i64 0, .int .u64 0, .slice none 0 0, .slice none 0 0] 42)).cell? ⟨b, o + i, none⟩ = some (.int .u8 (x.toNat : Int)) := by rw [World.cell?_alloc_lt _ _ _ (Nat.lt_trans hbb h.lt)]; exact hcx
  have hz : ((i : Int) == (n : Int)) = false := by simp; omega
  have i0' : (0 : Int) ≤ (i : Int) := by omega
  have i1' : (i : Int) < (n : Int) := by omega
  have hn6 := h.hn
  clear hs hy hbb hcx
  have hp1 : decide ((4096 : Int) < (p : Int) + 1) = false := decide_eq_false (by omega)
  have hp2 : (p : Int) + 1 ≤ 4096 := by omega
  have C1 := Lib.hid (fun W => begins_any x W)
  rw [ha] at C1
  have C2 := Lib.hid (fun W => behind_any x g W)
  rw [hb] at C2
  have hd8 : ((d : Int) == 8) = false := by simp; omega
  have hx9 : ((x.toNat : Int) == 159) = false := by
    have : x.toNat ≠ 159 := fun e => h9 (UInt8.toNat_inj.1 e)
    simp; omega
  have q77 := eq_nilf
  have q78 := eq_somef
  have C3 := Lib.hid (fun W (hs : RSt W g (some ⟨b, o, none⟩) n c bs i (p + 1) d) => head_any hs hl x hx h27 hm)
  obtain ⟨rh, hrh⟩ : ∃ rh, rh = headD (bs.drop i) := ⟨_, rfl⟩
  have hmaj : ∀ m num r', rh = .ok (m, num, r') → m = x.toNat / 32 ∧ num < 18446744073709551616 := fun m num r' e => by
    rw [hrh, hx] at e
    exact headD_maj e
  rw [← hrh] at C3 ⊢
  obtain ⟨r, hr⟩ : ∃ r, r = tailR sub (p + 1) rh := ⟨_, rfl⟩
  rw [← hr]
  have HR := Lib.hid hr
  have HMAJ := Lib.hid hmaj
  generalize x.toNat = X at *
  clear hx h9 hb hrh hr hmaj h27 hm
  clear h
  go_enter Tryz.func34, Tryz.ntmps34
  go_wp2_with fail
  go_quiet (fail)
  have g0' : ((w.alloc (.cells #[.int .i64 0, .int .u64 0, .slice none 0 0, .slice none 0 0] 42)).drewN nq).cell? ⟨g, 0, none⟩ = some (.slice (some ⟨b, o, none⟩) n c) := g0
  have g1' : ((w.alloc (.cells #[.int .i64 0, .int .u64 0, .slice none 0 0, .slice none 0 0] 42)).drewN nq).cell? ⟨g, 1, none⟩ = some (.int .i64 (i : Int)) := g1
  have hcx3 : ((w.alloc (.cells #[.int .i64 0, .int .u64 0, .slice none 0 0, .slice none 0 0] 42)).drewN nq).cell? ⟨b, o + i, none⟩ = some (.int .u8 (X : Int)) := hcx2
  have HX1 := Lib.hid (below_drewN (w.heap.size + 1) (w.alloc (.cells #[.int .i64 0, .int .u64 0, .slice none 0 0, .slice none 0 0] 42)) nq)
  have HS1 := Lib.hid (HS.out.drewN nq)
  generalize (w.alloc (.cells #[.int .i64 0, .int .u64 0, .slice none 0 0, .slice none 0 0] 42)).drewN nq = W1 at *
  go_wp2_with fail
  go_quiet (fail)
  have HX2 := Lib.hid (HX1.out.trans (below_drewN (w.heap.size + 1) W1 nq))
  have HS2 := Lib.hid (HS1.out.drewN nq)
  have g2' := HS2.out.c2
  have q2' := HS2.out.f2
  generalize W1.drewN nq = W2 at *
  have hs3 := HS2.out.set2 (z := (p : Int) + 1) (p + 1) (by omega)
  have r1 := hs3.c1
  have rf1 := hs3.f1
  have r2 := hs3.c2
  have r3 := hs3.c3
  have e1 : ((p + 1 : Nat) : Int) = (p : Int) + 1 := by omega
  rw [e1] at r2
  have HS3 := Lib.hid hs3
  have HOX := Lib.hid ((Only.of_below (g := g) (show Below (w.alloc (.cells #[.int .i64 0, .int .u64 0, .slice none 0 0, .slice none 0 0] 42)).heap.size (w.alloc (.cells #[.int .i64 0, .int .u64 0, .slice none 0 0, .slice none 0 0] 42)) W2 by have := HX2.out; rwa [show (w.alloc (.cells #[.int .i64 0, .int .u64 0, .slice none 0 0, .slice none 0 0] 42)).heap.size = w.heap.size + 1 by simp])).setCell (p := ⟨g, 2, none⟩) rfl (.int .i64 ((p : Int) + 1)))
  have HOW := Lib.hid (((Only.refl g w).alloc (.cells #[.int .i64 0, .int .u64 0, .slice none 0 0, .slice none 0 0] 42)).trans HOX.out)
  clear hs3 e1 g0 g1 g0' g1' hcx2 hcx3 HX1 HS1
  go_wp2_with fail
  refine (C1.out _).mono ?_
  rintro e w3 ⟨rfl, rfl⟩
  go_wp2_with fail
  refine (C2.out _).mono ?_
  rintro e w3 ⟨rfl, rfl⟩
  have HC3 := Lib.hid (C3.out _ HS3.out)
  clear C3
  go_wp2_with fail
  refine HC3.out.mono ?_
  rintro e w4 hg4
  rcases rh with z | ⟨m, num, r'⟩
  · obtain ⟨rfl, ho4⟩ := hg4
    obtain ⟨⟨z0, z1, z2, z3⟩, f0, f1, f2, f3⟩ := zero_only (HOX.out.trans ho4) HG.out
    have HOZ := Lib.hid (HOW.out.trans ho4)
    clear ho4
    unfold flt
    go_wp2_with fail
    rw [HR.out]
    refine bodyPost_ret (v := .tuple #[noItem, flt z]) (by simp [results, Tryz.results34, go_sem, z0, z1, z2, z3, noItem, flt]) rfl ⟨rfl, set4_only HOZ.out (Nat.le_refl _)⟩
  · obtain ⟨i2, rfl, hs4, hl2, ho4⟩ := hg4
    obtain ⟨hm1, hm2⟩ := HMAJ.out m num r' rfl
    have hk := HK.out w4 i2 (p + 1) num hs4 hm2 (by omega)
    have hrr : kindR sub (X / 32) num (p + 1) (bs.drop i2) = r := by rw [HR.out, tailR, hm1, hl2]
    rw [hrr] at hk
    have HKK := Lib.hid hk
    have HOY := Lib.hid (HOX.out.trans ho4)
    have HZY : Hid (w.heap.size + 1 ≤ w4.heap.size) := by show _ ≤ _; have := HOY.out.size; simpa using this
    clear hs4 hl2 ho4 hm1 hm2 hk hrr
    rcases r with z | ⟨x2, p2, l2⟩
    · have HKE : Hid (Calls Tryz.prog 80 #[.pointer (some ⟨g, 0, none⟩), .int .u64 (num : Int)] w4 fun e w' => e = .returned (.tuple #[.agg #[.int .i64 0, .int .u64 0, .slice none 0 0, .slice none 0 0], .iface 107 (.agg #[.int .i64 z])]) ∧ Only g w4 w') := HKK
      go_wp2_with (first | (go_at_call 80; refine HKE.out.mono ?_; rintro e w5 ⟨rfl, ho5⟩; obtain ⟨⟨z0, z1, z2, z3⟩, f0, f1, f2, f3⟩ := zero_only (HOY.out.trans ho5) HG.out; have HOZ := Lib.hid (((Only.refl g w).alloc (.cells #[.int .i64 0, .int .u64 0, .slice none 0 0, .slice none 0 0] 42)).trans (HOY.out.trans ho5)); clear ho5) | fail)
      refine bodyPost_ret (v := .tuple #[noItem, flt z]) (by simp [results, Tryz.results34, go_sem, z0, z1, z2, z3, noItem, flt]) rfl ⟨rfl, set4_only HOZ.out (Nat.le_refl _)⟩
    · go_wp2_with (first | (go_at_call 80; refine HKK.out.mono ?_; rintro e w5 ⟨v, i5, rfl, hv, hs5, hl5, ho5⟩; obtain ⟨k1, n1, A1, nd1, cd1, AL1, nl1, cl1, rfl⟩ := hv.form; obtain ⟨⟨z0, z1, z2, z3⟩, f0, f1, f2, f3⟩ := zero_only (HOY.out.trans ho5) HG.out; have HOZ := Lib.hid (((Only.refl g w).alloc (.cells #[.int .i64 0, .int .u64 0, .slice none 0 0, .slice none 0 0] 42)).trans (HOY.out.trans ho5)); have HV := Lib.hid hv; have HS5 := Lib.hid hs5; have HL5 := Lib.hid hl5; clear ho5 hv hs5 hl5) | fail)
      refine bodyPost_ret (v := .tuple #[.agg #[.int .i64 k1, .int .u64 (n1 : Int), .slice A1 nd1 cd1, .slice AL1 nl1 cl1], .nilIface]) (by simp [results, Tryz.results34, go_sem, z0, z1, z2, z3]) rfl ?_
      exact ⟨_, i5, rfl, HV.out.fin (Nat.le_refl _) HZY.out (Nat.le_of_succ_le HZY.out), HS5.out.set4 HG.out, HL5.out, set4_only HOZ.out (Nat.le_refl _)⟩
end
end Go.Proofs.YtbdjkihgcmebgaaGreatDoor
