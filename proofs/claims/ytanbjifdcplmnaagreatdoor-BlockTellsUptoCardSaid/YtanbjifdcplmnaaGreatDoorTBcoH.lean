/- What Hops of layer 5 returns, of any block. -/
import Derived.Test.YtanbjifdcplmnaaGreatDoorTBlkL
namespace Go.Proofs.YtanbjifdcplmnaaGreatDoor
open Go.RowKit

/-- The limit and the count of hops that an item says. -/
def hopsI (o : Option Itm) : Nat × Nat × Bool :=
  match o with
  | none => (0, 0, false)
  | some (.mk k _ _ l) => match l with
    | [a, b] => if k = 4 ∧ a.kind = 0 ∧ b.kind = 0 ∧ 1 ≤ a.num ∧ a.num ≤ 255 then (a.num, b.num, true) else (0, 0, false)
    | _ => (0, 0, false)
def GivesHp (r : Nat × Nat × Bool) (w : World) (e : Ending) (w' : World) : Prop := e = .returned (.tuple #[.int .u64 (r.1 : Int), .int .u64 (r.2.1 : Int), .bool r.2.2]) ∧ Below w.heap.size w w'
theorem hopsI_kind {k : Int} {m : Nat} {d : List UInt8} {l : List Itm} (h : k ≠ 4) : hopsI (some (.mk k m d l)) = (0, 0, false) := by
  unfold hopsI
  match l with
  | [] => rfl
  | [_] => rfl
  | [a, b] => exact if_neg (fun q => h q.1)
  | _ :: _ :: _ :: _ => rfl
theorem hopsI_len {k : Int} {m : Nat} {d : List UInt8} {l : List Itm} (h : l.length ≠ 2) : hopsI (some (.mk k m d l)) = (0, 0, false) := by
  unfold hopsI
  match l, h with
  | [], _ => rfl
  | [_], _ => rfl
  | [a, b], h => exact absurd rfl h
  | _ :: _ :: _ :: _, _ => rfl

set_option maxRecDepth 100000 in
set_option maxHeartbeats 16000000 in
theorem hops_any (t n f : Nat) (c : Int) (A : Option Addr) (nd cd B : Nat) (d : List UInt8) (w : World) (hB : B ≤ w.heap.size) (h : Rd w B A nd d) (hn : nd ≤ 140737488355328) (hc : nd ≤ cd) (hL : LaidE w) :
    Calls Tryz.prog 12 #[blkV t n f c A nd cd] w (GivesHp (hopsI (contB t 10 d)) w) := by
  have HB0 := Lib.hid ((Below.refl w.heap.size w).alloc (Nat.le_refl _) (.cells #[.int .u64 (t : Int), .int .u64 (n : Int), .int .u64 (f : Int), .int .i64 c, .slice A nd cd] 25))
  have C1 := Lib.hid (contents_any t n f 10 c A nd cd B d (w.alloc (.cells #[.int .u64 (t : Int), .int .u64 (n : Int), .int .u64 (f : Int), .int .i64 c, .slice A nd cd] 25)) (Nat.le_trans hB (le_alloc _ _)) (h.alloc hB _) hn hc (hL.below HB0.out hL.lt))
  have hs0 : (w.alloc (.cells #[.int .u64 (t : Int), .int .u64 (n : Int), .int .u64 (f : Int), .int .i64 c, .slice A nd cd] 25)).heap.size = w.heap.size + 1 := by simp
  have HS0 := Lib.hid hs0
  have CU := Lib.hid (fun (k : Int) (n : Nat) (v2 v3 : Value) (W : World) (g2 : v2.oneCell' = true) (g3 : v3.oneCell' = true) => uintof_any k n v2 v3 (k == 0) W g2 g3 rfl)
  generalize contB t 10 d = O at *
  clear h hB hn hc hL hs0
  unfold blkV at *
  go_enter Tryz.func12, Tryz.ntmps12
  go_wp2_with fail
  refine C1.out.mono ?_
  rintro e w1 ⟨hb, ⟨v, x, rfl, rfl, hv⟩ | ⟨rfl, rfl⟩⟩
  case inr =>
    rw [HS0.out] at hb
    have B1 := Lib.hid ((HB0.out.trans (hb.mono (Nat.le_succ _))))
    clear hb
    go_wp2_with fail
    exact bodyPost_ret (v := .tuple #[.int .u64 0, .int .u64 0, .bool false]) (by simp [results, Tryz.results12, go_sem]) rfl ⟨rfl, B1.out.alloc B1.out.size _⟩
  rw [HS0.out] at hb
  obtain ⟨k, m, e0, l⟩ := x
  have hv' := hv.unmask
  obtain ⟨A1, nd1, cd1, AL, cl1, rfl, -, -, -, -, hcl, hrow⟩ := hv'.open
  have B1 := Lib.hid ((HB0.out.trans (hb.mono (Nat.le_succ _))))
  have hw1 : w.heap.size + 1 ≤ w1.heap.size := by have := hb.size; rw [HS0.out] at this; exact this
  have HW1 := Lib.hid hw1
  obtain ⟨L, hL⟩ : ∃ L, L = l.length := ⟨_, rfl⟩
  rw [← hL] at hrow ⊢
  have HLL := Lib.hid hL
  have HROW := Lib.hid hrow
  clear hb hv hv' hrow C1 hL hw1 hcl
  have t3 : (w1.alloc (.cells #[.int .i64 k, .int .u64 (m : Int), .slice A1 nd1 cd1, .slice AL L cl1] 37)).cell? ⟨w1.heap.size, 3, none⟩ = some (.slice AL L cl1) := by rw [World.cell?_alloc_at _ _ _ _ rfl]; rfl
  have t0 : (w1.alloc (.cells #[.int .i64 k, .int .u64 (m : Int), .slice A1 nd1 cd1, .slice AL L cl1] 37)).cell? ⟨w1.heap.size, 0, none⟩ = some (.int .i64 k) := by rw [World.cell?_alloc_at _ _ _ _ rfl]; rfl
  have hb2 : Below w1.heap.size w1 (w1.alloc (.cells #[.int .i64 k, .int .u64 (m : Int), .slice A1 nd1 cd1, .slice AL L cl1] 37)) := by exact (Below.refl _ _).alloc (Nat.le_refl _) _
  have HB2 := Lib.hid hb2
  by_cases hk : k = 4
  case neg =>
    have hk1 : (k != 4) = true := by simpa using hk
    have HR := Lib.hid (hopsI_kind (m := m) (d := e0) (l := l) hk)
    clear hk
    go_wp2_with fail
    rw [HR.out]
    exact bodyPost_ret (v := .tuple #[.int .u64 0, .int .u64 0, .bool false]) (by simp [results, Tryz.results12, go_sem]) rfl ⟨rfl, B1.out.trans (HB2.out.mono (by have := HW1.out; omega))⟩
  subst hk
  by_cases h2 : L = 2
  case neg =>
    have hk2 : ((L : Int) != 2) = true := by rw [bne_iff_ne]; omega
    have HR := Lib.hid (hopsI_len (k := 4) (m := m) (d := e0) (l := l) (by rw [← HLL.out]; exact h2))
    clear h2
    go_wp2_with fail
    rw [HR.out]
    exact bodyPost_ret (v := .tuple #[.int .u64 0, .int .u64 0, .bool false]) (by simp [results, Tryz.results12, go_sem]) rfl ⟨rfl, B1.out.trans (HB2.out.mono (by have := HW1.out; omega))⟩
  subst h2
  obtain ⟨y0, y1, rfl⟩ : ∃ y0 y1, l = [y0, y1] := by
    have := HLL.out
    match l, this with
    | [y0, y1], _ => exact ⟨y0, y1, rfl⟩
  obtain ⟨b, o, rfl, hbb, hs⟩ := HROW.out (by decide)
  rw [RdIs, RdIs] at hs
  obtain ⟨⟨a00, a01, a02, a03, i0, i1, i2, i3, x0⟩, ⟨a10, a11, a12, a13, j0, j1, j2, j3, x1⟩, -⟩ := hs
  obtain ⟨k0, n0, d0, l0⟩ := y0
  obtain ⟨k1, n1, d1, l1⟩ := y1
  obtain ⟨A0, nd0, cd0, AL0, cl0, hy0, -, -, -, -, -, -⟩ := x0.open
  obtain ⟨A2, nd2, cd2, AL2, cl2, hy1, -, -, -, -, -, -⟩ := x1.open
  injection hy0 with hy0
  injection hy1 with hy1
  simp only [Array.mk.injEq, List.cons.injEq, and_true] at hy0 hy1
  obtain ⟨rfl, rfl, rfl, rfl⟩ := hy0
  obtain ⟨rfl, rfl, rfl, rfl⟩ := hy1
  have HR : Hid (hopsI (some (.mk 4 m e0 [.mk k0 n0 d0 l0, .mk k1 n1 d1 l1])) = if k0 = 0 ∧ k1 = 0 ∧ 1 ≤ n0 ∧ n0 ≤ 255 then (n0, n1, true) else (0, 0, false)) := by
    show (if (4 : Int) = 4 ∧ _ then _ else _) = _
    simp only [true_and, Itm.kind, Itm.num]
  generalize hopsI (some (.mk 4 m e0 [.mk k0 n0 d0 l0, .mk k1 n1 d1 l1])) = RR at *
  generalize l0.length = L0 at *
  generalize l1.length = L1 at *
  have kk : ∀ (W : World) (_ : Below w1.heap.size w1 W) (j : Nat) (u : Value), w1.cell? ⟨b, j, none⟩ = some u → W.cell? ⟨b, j, none⟩ = some u := fun W hW j u hc => (hW.cell (p := ⟨b, j, none⟩) hbb).trans hc
  have T3 := Lib.hid t3
  have a0 := kk _ hb2 _ _ i0
  have a1 := kk _ hb2 _ _ i1
  have a2 := kk _ hb2 _ _ i2
  have a3 := kk _ hb2 _ _ i3
  have hz2 : (w1.alloc (.cells #[.int .i64 4, .int .u64 (m : Int), .slice A1 nd1 cd1, .slice (some ⟨b, o, none⟩) 2 cl1] 37)).heap.size = w1.heap.size + 1 := by simp
  have HJ := Lib.hid (And.intro j0 (And.intro j1 (And.intro j2 j3)))
  have HK := Lib.hid kk
  have HZ2 := Lib.hid hz2
  clear i0 i1 i2 i3 j0 j1 j2 j3 kk hb2 hz2 x0 x1 HROW HLL
  go_wp2_with fail
  refine (CU.out k0 n0 (.slice _ _ _) (.slice _ _ _) _ rfl rfl).mono ?_
  rintro e w3 ⟨rfl, hb3⟩
  have b3 := HB2.out.trans (hb3.mono (by have := HZ2.out; omega))
  have t3' := (hb3.cell (p := ⟨w1.heap.size, 3, none⟩) (by have := HZ2.out; show w1.heap.size < _; omega)).trans T3.out
  have c0 := HK.out _ b3 _ _ HJ.out.1
  have c1 := HK.out _ b3 _ _ HJ.out.2.1
  have c2 := HK.out _ b3 _ _ HJ.out.2.2.1
  have c3 := HK.out _ b3 _ _ HJ.out.2.2.2
  have B3 := Lib.hid b3
  clear hb3 b3 t3 t0 a0 a1 a2 a3
  generalize hbk0 : (k0 == 0) = R0 at *
  go_wp2_with fail
  refine (CU.out k1 n1 (.slice _ _ _) (.slice _ _ _) _ rfl rfl).mono ?_
  rintro e w4 ⟨rfl, hb4⟩
  have B4 := Lib.hid (B3.out.trans (hb4.mono B3.out.size))
  clear hb4
  generalize hbk1 : (k1 == 0) = R1 at *
  have HRR : Hid (RR = if R0 = true ∧ R1 = true ∧ 1 ≤ n0 ∧ n0 ≤ 255 then (n0, n1, true) else (0, 0, false)) := by
    show RR = _
    rw [HR.out, ← hbk0, ← hbk1]
    simp only [beq_iff_eq]
  clear HR hbk0 hbk1
  by_cases hok : R0 = true ∧ R1 = true ∧ 1 ≤ n0 ∧ n0 ≤ 255
  · have hr := HRR.out
    rw [if_pos hok] at hr
    obtain ⟨rfl, rfl, h1, h2⟩ := hok
    have h1i : ¬ (n0 : Int) < 1 := by omega
    have h2i : ¬ 255 < (n0 : Int) := by omega
    have h1j : 1 ≤ (n0 : Int) := by omega
    have h2j : (n0 : Int) ≤ 255 := by omega
    subst hr
    clear HRR h1 h2
    go_wp2_with fail
    exact bodyPost_ret (v := .tuple #[.int .u64 (n0 : Int), .int .u64 (n1 : Int), .bool true]) (by simp [results, Tryz.results12, go_sem]) rfl ⟨rfl, B1.out.trans (B4.out.mono (by have := HW1.out; omega))⟩
  · have hr := HRR.out
    rw [if_neg hok] at hr
    subst hr
    clear HRR
    cases R0 with
    | false =>
      clear hok
      go_wp2_with fail
      exact bodyPost_ret (v := .tuple #[.int .u64 0, .int .u64 0, .bool false]) (by simp [results, Tryz.results12, go_sem]) rfl ⟨rfl, B1.out.trans (B4.out.mono (by have := HW1.out; omega))⟩
    | true =>
    cases R1 with
    | false =>
      clear hok
      go_wp2_with fail
      exact bodyPost_ret (v := .tuple #[.int .u64 0, .int .u64 0, .bool false]) (by simp [results, Tryz.results12, go_sem]) rfl ⟨rfl, B1.out.trans (B4.out.mono (by have := HW1.out; omega))⟩
    | true =>
    by_cases h1 : 1 ≤ n0
    · have h2 : ¬ n0 ≤ 255 := fun h => hok ⟨rfl, rfl, h1, h⟩
      have h1j : 1 ≤ (n0 : Int) := by omega
      have h2j : 255 < (n0 : Int) := by omega
      clear hok h1 h2
      go_wp2_with fail
      exact bodyPost_ret (v := .tuple #[.int .u64 0, .int .u64 0, .bool false]) (by simp [results, Tryz.results12, go_sem]) rfl ⟨rfl, B1.out.trans (B4.out.mono (by have := HW1.out; omega))⟩
    · have h1j : (n0 : Int) < 1 := by omega
      clear hok h1
      go_wp2_with fail
      exact bodyPost_ret (v := .tuple #[.int .u64 0, .int .u64 0, .bool false]) (by simp [results, Tryz.results12, go_sem]) rfl ⟨rfl, B1.out.trans (B4.out.mono (by have := HW1.out; omega))⟩
end Go.Proofs.YtanbjifdcplmnaaGreatDoor
