/- Hops of layer 5's reference. (Made by gen/BcoV.py.) -/
import Derived.Test.YtanbjifdcplmnaaGreatDoorTBcoH
import Derived.Test.YtanbjifdcplmnaaGreatDoorTBcoT
import Derived.BigQuiet
namespace Go.Proofs.YtanbjifdcplmnaaGreatDoor
open Go.RowKit

set_option maxRecDepth 100000 in
set_option maxHeartbeats 16000000 in
theorem rhops_any (t n f : Nat) (c : Int) (A : Option Addr) (nd cd B : Nat) (d : List UInt8) (w : World) (hB : B ≤ w.heap.size) (h : Rd w B A nd d) (hn : nd ≤ 140737488355328) (hc : nd ≤ cd) :
    Calls Tryz.prog 13 #[blkV t n f c A nd cd] w (GivesHp (hopsI (contB t 10 d)) w) := by
  have HB0 := Lib.hid ((Below.refl w.heap.size w).alloc (Nat.le_refl _) (.cells #[.int .u64 (t : Int), .int .u64 (n : Int), .int .u64 (f : Int), .int .i64 c, .slice A nd cd] 25))
  have C1 := Lib.hid (rwhole_any t n f 10 c A nd cd B d (w.alloc (.cells #[.int .u64 (t : Int), .int .u64 (n : Int), .int .u64 (f : Int), .int .i64 c, .slice A nd cd] 25)) (Nat.le_trans hB (le_alloc _ _)) (h.alloc hB _) hn hc)
  have hs0 : (w.alloc (.cells #[.int .u64 (t : Int), .int .u64 (n : Int), .int .u64 (f : Int), .int .i64 c, .slice A nd cd] 25)).heap.size = w.heap.size + 1 := by simp
  have HS0 := Lib.hid hs0
  have HA := Lib.hid (contB_all t 10 d)
  unfold WholeB at C1
  generalize contB t 10 d = O at *
  generalize allB t 10 d = R at *
  generalize (decode d).1 = X at *
  obtain ⟨k, m, e0, l⟩ := X
  clear h hB hn hc hs0
  unfold blkV at *
  go_enter Tryz.func13, Tryz.ntmps13
  go_wp2_with fail
  refine C1.out.mono ?_
  rintro e w1 ⟨v, rfl, hv, hb⟩
  have hv' := hv.unmask
  obtain ⟨A1, nd1, cd1, AL, cl1, rfl, -, -, -, -, hcl, hrow⟩ := hv'.open
  rw [HS0.out] at hb
  have hz1 : w.heap.size + 1 ≤ w1.heap.size := by have := hb.size; rw [HS0.out] at this; exact this
  have HW1 := Lib.hid hz1
  have B0 := Lib.hid (HB0.out.trans (hb.mono (Nat.le_succ _)))
  obtain ⟨L, hL⟩ : ∃ L, L = l.length := ⟨_, rfl⟩
  rw [← hL] at hrow ⊢
  have HLL := Lib.hid hL
  have HROW := Lib.hid hrow
  have B1 := Lib.hid (B0.out.alloc B0.out.size (.cells #[.int .i64 k, .int .u64 (m : Int), .slice A1 nd1 cd1, .slice AL L cl1] 37))
  clear hb hv hv' hrow C1 hL hz1 hcl
  cases R with
  | false =>
    have hA : O = none := by rw [HA.out, if_neg (by decide)]
    subst hA
    clear HA
    go_wp2_with fail
    exact bodyPost_ret (v := .tuple #[.int .u64 0, .int .u64 0, .bool false]) (by simp [results, Tryz.results13, go_sem]) rfl ⟨rfl, B1.out⟩
  | true =>
  have hA : O = some (.mk k m e0 l) := by rw [HA.out, if_pos rfl]
  subst hA
  clear HA
  by_cases hk : k = 4
  case neg =>
    have hk1 : (k != 4) = true := by simpa using hk
    have HR := Lib.hid (hopsI_kind (m := m) (d := e0) (l := l) hk)
    clear hk
    go_wp2_with fail
    rw [HR.out]
    exact bodyPost_ret (v := .tuple #[.int .u64 0, .int .u64 0, .bool false]) (by simp [results, Tryz.results13, go_sem]) rfl ⟨rfl, B1.out⟩
  subst hk
  by_cases h2 : L = 2
  case neg =>
    have hk2 : ((L : Int) != 2) = true := by rw [bne_iff_ne]; omega
    have HR := Lib.hid (hopsI_len (k := 4) (m := m) (d := e0) (l := l) (by rw [← HLL.out]; exact h2))
    clear h2
    go_wp2_with fail
    rw [HR.out]
    exact bodyPost_ret (v := .tuple #[.int .u64 0, .int .u64 0, .bool false]) (by simp [results, Tryz.results13, go_sem]) rfl ⟨rfl, B1.out⟩
  subst h2
  obtain ⟨y0, y1, rfl⟩ : ∃ y0 y1, l = [y0, y1] := by
    have := HLL.out
    match l, this with
    | [y0, y1], _ => exact ⟨y0, y1, rfl⟩
  obtain ⟨b, o, rfl, hbb, hs⟩ := HROW.out (by decide)
  rw [RdIs, RdIs] at hs
  obtain ⟨⟨a00, a01, a02, a03, i0, i1, i2, i3, x0⟩, ⟨a10, a11, a12, a13, j0, j1, j2, j3, x1⟩, -⟩ := hs
  obtain ⟨k0, n0, d0, l0⟩ := y0
  obtain ⟨k1, n1, d1, l1⟩ := y1
  obtain ⟨A0, nd0, cd0, AL0, cl0, hy0, -, -, -, -, -, -⟩ := x0.open
  obtain ⟨A2, nd2, cd2, AL2, cl2, hy1, -, -, -, -, -, -⟩ := x1.open
  injection hy0 with hy0
  injection hy1 with hy1
  simp only [Array.mk.injEq, List.cons.injEq, and_true] at hy0 hy1
  obtain ⟨rfl, rfl, rfl, rfl⟩ := hy0
  obtain ⟨rfl, rfl, rfl, rfl⟩ := hy1
  have HR : Hid (hopsI (some (.mk 4 m e0 [.mk k0 n0 d0 l0, .mk k1 n1 d1 l1])) = if k0 = 0 ∧ k1 = 0 ∧ 1 ≤ n0 ∧ n0 ≤ 255 then (n0, n1, true) else (0, 0, false)) := by
    show (if (4 : Int) = 4 ∧ _ then _ else _) = _
    simp only [true_and, Itm.kind, Itm.num]
  generalize hopsI (some (.mk 4 m e0 [.mk k0 n0 d0 l0, .mk k1 n1 d1 l1])) = RR at *
  have kk : ∀ (j : Nat) (u : Value), w1.cell? ⟨b, j, none⟩ = some u → (w1.alloc (.cells #[.int .i64 4, .int .u64 (m : Int), .slice A1 nd1 cd1, .slice (some ⟨b, o, none⟩) 2 cl1] 37)).cell? ⟨b, j, none⟩ = some u := fun j u hc => by rw [World.cell?_alloc_lt _ _ ⟨b, j, none⟩ hbb]; exact hc
  have c0 := kk _ _ i0
  have c1 := kk _ _ i1
  have e0' := kk _ _ j0
  have e1' := kk _ _ j1
  have t3 : (w1.alloc (.cells #[.int .i64 4, .int .u64 (m : Int), .slice A1 nd1 cd1, .slice (some ⟨b, o, none⟩) 2 cl1] 37)).cell? ⟨w1.heap.size, 3, none⟩ = some (.slice (some ⟨b, o, none⟩) 2 cl1) := by rw [World.cell?_alloc_at _ _ _ _ rfl]; rfl
  have t0 : (w1.alloc (.cells #[.int .i64 4, .int .u64 (m : Int), .slice A1 nd1 cd1, .slice (some ⟨b, o, none⟩) 2 cl1] 37)).cell? ⟨w1.heap.size, 0, none⟩ = some (.int .i64 4) := by rw [World.cell?_alloc_at _ _ _ _ rfl]; rfl
  clear i0 i1 i2 i3 j0 j1 j2 j3 kk x0 x1 HROW HLL hbb
  by_cases g0 : k0 = 0
  case neg =>
    have hr := HR.out
    rw [if_neg (fun q => g0 q.1)] at hr
    subst hr
    have t1 : (k0 != 0) = true := by simpa using g0
    clear HR g0
    go_wp2_with fail
    exact bodyPost_ret (v := .tuple #[.int .u64 0, .int .u64 0, .bool false]) (by simp [results, Tryz.results13, go_sem]) rfl ⟨rfl, B1.out⟩
  by_cases g1 : k1 = 0
  case neg =>
    have hr := HR.out
    rw [if_neg (fun q => g1 q.2.1)] at hr
    subst hr g0
    have t1 : (k1 != 0) = true := by simpa using g1
    clear HR g1
    go_wp2_with fail
    exact bodyPost_ret (v := .tuple #[.int .u64 0, .int .u64 0, .bool false]) (by simp [results, Tryz.results13, go_sem]) rfl ⟨rfl, B1.out⟩
  subst g0 g1
  by_cases h1 : 1 ≤ n0
  case neg =>
    have hr := HR.out
    rw [if_neg (fun q => h1 q.2.2.1)] at hr
    subst hr
    have h1j : (n0 : Int) < 1 := by omega
    clear HR h1
    go_wp2_with fail
    exact bodyPost_ret (v := .tuple #[.int .u64 0, .int .u64 0, .bool false]) (by simp [results, Tryz.results13, go_sem]) rfl ⟨rfl, B1.out⟩
  by_cases h2 : n0 ≤ 255
  case neg =>
    have hr := HR.out
    rw [if_neg (fun q => h2 q.2.2.2)] at hr
    subst hr
    have h1j : 1 ≤ (n0 : Int) := by omega
    have h1i : ¬ (n0 : Int) < 1 := by omega
    have h2j : 255 < (n0 : Int) := by omega
    clear HR h1 h2
    go_wp2_with fail
    exact bodyPost_ret (v := .tuple #[.int .u64 0, .int .u64 0, .bool false]) (by simp [results, Tryz.results13, go_sem]) rfl ⟨rfl, B1.out⟩
  have hr := HR.out
  rw [if_pos ⟨rfl, rfl, h1, h2⟩] at hr
  subst hr
  have h1j : 1 ≤ (n0 : Int) := by omega
  have h1i : ¬ (n0 : Int) < 1 := by omega
  have h2j : (n0 : Int) ≤ 255 := by omega
  have h2i : ¬ 255 < (n0 : Int) := by omega
  clear HR h1 h2
  go_wp2_with fail
  go_region_held3 (fun W => W.cell? ⟨w1.heap.size, 3, none⟩ = some (.slice (some ⟨b, o, none⟩) 2 cl1) ∧ W.cell? ⟨b, o + 1, none⟩ = some (.int .u64 (n0 : Int)) ∧ W.cell? ⟨b, o + 4 + 1, none⟩ = some (.int .u64 (n1 : Int)))
    (first | (exact ⟨t3, c1, e1'⟩) | fail)
    (fail)
  all_goals go_wp2_with fail
  all_goals exact bodyPost_ret (v := .tuple #[.int .u64 (n0 : Int), .int .u64 (n1 : Int), .bool true]) (by simp [results, Tryz.results13, go_sem]) rfl ⟨rfl, by first | exact B1.out | exact B1.out.drew⟩
end Go.Proofs.YtanbjifdcplmnaaGreatDoor
