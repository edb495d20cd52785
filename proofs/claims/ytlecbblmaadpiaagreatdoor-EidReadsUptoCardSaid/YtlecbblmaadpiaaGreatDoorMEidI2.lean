/- What ipnText, Text and Node of layer 4 return. -/
import Derived.Test.YtlecbblmaadpiaaGreatDoorMArrS
import Derived.Test.YtlecbblmaadpiaaGreatDoorMEidC2
import Derived.Test.YtlecbblmaadpiaaGreatDoorMEidD
import Derived.Test.YtlecbblmaadpiaaGreatDoorMEidI1
import Derived.Deep.RegionHeld3
namespace Go.Proofs.YtlecbblmaadpiaaGreatDoor
open Go.RowKit
open Go.Lib (decDigits)
def strL (l : List UInt8) : ByteArray := ⟨l.toArray⟩
theorem strL_app (a b : List UInt8) : strL a ++ strL b = strL (a ++ b) := by
  apply ByteArray.ext
  unfold strL
  simp [ByteArray.data_append]
theorem strL_data (s : ByteArray) : strL s.data.toList = s := Lib.mk_data s
theorem strL_list (l : List UInt8) : (strL l).data.toList = l := by unfold strL; simp
theorem strL_size (l : List UInt8) : (strL l).size = l.length := by rw [Lib.size_eq, strL_list]
theorem nd20 (n : Nat) (h : n < 18446744073709551616) : (decDigits n).length ≤ 20 := by
  have key : ∀ (k n : Nat), n < 10 ^ (k + 1) → (decDigits n).length ≤ k + 1 := by
    intro k
    induction k with
    | zero => intro n hn; rw [dec_small (by omega)]; simp
    | succ k ih =>
      intro n hn
      by_cases h10 : n < 10
      · rw [dec_small h10]; simp
      · rw [dec_big h10, List.length_append]
        have := ih (n / 10) (by rw [Nat.div_lt_iff_lt_mul (by decide)]; rw [Nat.pow_succ] at hn; exact hn)
        simp only [List.length_singleton]
        omega
  exact key 19 n (Nat.lt_of_lt_of_le h (by decide))
set_option maxRecDepth 100000 in
set_option maxHeartbeats 1000000 in
theorem ipntext_any (n v : Nat) (w : World) (hn : n < 18446744073709551616) (hv : v < 18446744073709551616) :
    Calls Tryz.prog 70 #[.int .u64 (n : Int), .int .u64 (v : Int)] w fun e w' => e = .returned (.string (strL (ipnL ++ (decDigits n ++ (46 :: decDigits v))))) ∧ Below w.heap.size w w' := by
  have C1 := Lib.hid (fun W => dec_any (n : Int) W (by omega) (by omega))
  have C2 := Lib.hid (fun W => dec_any (v : Int) W (by omega) (by omega))
  rw [Int.toNat_natCast] at C1 C2
  have l1 := nd20 n hn
  have l2 := nd20 v hv
  have e1 : (⟨(decDigits n).toArray⟩ : ByteArray) = strL (decDigits n) := rfl
  have e2 : (⟨(decDigits v).toArray⟩ : ByteArray) = strL (decDigits v) := rfl
  rw [e1] at C1
  rw [e2] at C2
  have eR : ((⟨#[105, 112, 110, 58]⟩ : ByteArray) ++ strL (decDigits n) ++ ⟨#[46]⟩) ++ strL (decDigits v) = strL (ipnL ++ (decDigits n ++ (46 :: decDigits v))) := by
    rw [show (⟨#[105, 112, 110, 58]⟩ : ByteArray) = strL ipnL from rfl, show (⟨#[46]⟩ : ByteArray) = strL [46] from rfl, strL_app, strL_app, strL_app]
    congr 1
    simp
  have s1 : (strL (decDigits n)).size ≤ 20 := by rw [strL_size]; exact l1
  have s2 : (strL (decDigits v)).size ≤ 20 := by rw [strL_size]; exact l2
  rw [← eR]
  generalize strL (decDigits n) = N at *
  generalize strL (decDigits v) = V at *
  clear e1 e2 l1 l2 eR
  go_enter Tryz.func70, Tryz.ntmps70
  go_wp2_with fail
  refine (C1.out _).mono ?_
  rintro e w1 ⟨rfl, hb⟩
  have HB := Lib.hid hb
  clear hb
  go_wp2_with fail
  refine (C2.out _).mono ?_
  rintro e w2 ⟨rfl, hb⟩
  have HB2 := Lib.hid hb
  clear hb
  go_wp2_with fail
  go_ret
  exact ⟨rfl, HB.out.trans (HB2.out.mono HB.out.size)⟩
theorem box_cells4 {w w' : World} {c0 c1 c2 c3 : Value} {t : TypeId} (h : Below (w.alloc (.cells #[c0, c1, c2, c3] t)).heap.size (w.alloc (.cells #[c0, c1, c2, c3] t)) w') :
    w'.cell? ⟨w.heap.size, 0, none⟩ = some c0 ∧ w'.cell? ⟨w.heap.size, 1, none⟩ = some c1 ∧ w'.cell? ⟨w.heap.size, 2, none⟩ = some c2 ∧ w'.cell? ⟨w.heap.size, 3, none⟩ = some c3 := by
  refine ⟨?_, ?_, ?_, ?_⟩ <;> (rw [h.cell (by simp), World.cell?_alloc_at _ _ _ _ rfl]; rfl)
theorem ep_name (sc : Int) (s : ByteArray) (n v : Nat) : (ep sc s n v).name = s.data.toList := rfl
set_option maxRecDepth 100000 in
set_option maxHeartbeats 1000000 in
theorem text_any (A : Snt) (sc : Int) (s : ByteArray) (n v : Nat) (w : World) (hA : Lds A w) (hs : s.size ≤ 140737488355328) (hn : n < 18446744073709551616) (hv : v < 18446744073709551616) :
    Calls Tryz.prog 20 #[epdV sc s n v] w fun e w' => e = .returned (.string (strL (textE (ep sc s n v)))) ∧ Below w.heap.size w w' := by
  have C1 := Lib.hid (ccheck_any A sc s n v (w.alloc (.cells #[.int .i64 sc, .string s, .int .u64 (n : Int), .int .u64 (v : Int)] 25)) (hA.alloc _) hs)
  have C2 := Lib.hid (fun W => none_any sc s n v W)
  have C3 := Lib.hid (fun W => ipntext_any n v W hn hv)
  clear hA
  cases hc : checkB (ep sc s n v) with
  | false =>
    have ht : textE (ep sc s n v) = [] := by unfold textE; rw [if_pos hc]
    rw [ht]
    rw [hc] at C1
    clear hc ht
    unfold epdV at *
    go_enter Tryz.func20, Tryz.ntmps20
    go_wp2_with fail
    refine C1.out.mono ?_
    rintro e w1 ⟨rfl, hb⟩
    have HB := Lib.hid hb
    clear hb
    go_wp2_with fail
    go_ret
    exact ⟨rfl, ((Below.refl _ _).alloc (Nat.le_refl _) _).trans (HB.out.mono (le_alloc _ _))⟩
  | true =>
    rw [hc] at C1
    by_cases h1 : sc = 1
    · subst h1
      obtain ⟨hn0, hv0, hnm⟩ := check_dtn hc rfl
      have hs64 : s.size ≤ 64 := by
        rw [ep_name] at hnm
        rw [Lib.size_eq]
        rcases hnm with h | h
        · rw [h]; simp
        · obtain ⟨r, -, -, -, -, h⟩ := name_head h; exact h
      by_cases he : s.data.toList = []
      · have ht := textE_none hc rfl (show (ep 1 s n v).name = [] from he)
        have hno : noneB (ep 1 s n v) = true := by
          unfold noneB
          rw [hn0, hv0, show (ep 1 s n v).name = [] from he]
          rfl
        rw [hno] at C2
        rw [ht]
        clear hc ht hno hn0 hv0 hnm
        unfold epdV at *
        go_enter Tryz.func20, Tryz.ntmps20
        go_wp2_with fail
        refine C1.out.mono ?_
        rintro e w1 ⟨rfl, hb⟩
        have g1 := box_cells4 hb
        have HB := Lib.hid hb
        clear hb
        obtain ⟨g10, g11, g12, g13⟩ := g1
        go_wp2_with fail
        refine (C2.out _).mono ?_
        rintro e w2 ⟨rfl, hb⟩
        have HB2 := Lib.hid hb
        clear hb
        go_wp2_with fail
        go_ret
        exact ⟨rfl, (((Below.refl _ _).alloc (Nat.le_refl _) _).trans (HB.out.mono (le_alloc _ _))).trans (HB2.out.mono (Nat.le_trans (le_alloc _ _) HB.out.size))⟩
      · have ht := textE_dtn hc rfl (show (ep 1 s n v).name ≠ [] from he)
        have hno : noneB (ep 1 s n v) = false := by
          unfold noneB
          have : (ep 1 s n v).name.isEmpty = false := by rw [ep_name]; cases hh : s.data.toList with | nil => exact absurd hh he | cons a l => rfl
          rw [this, Bool.false_and, Bool.and_false]
        have eR : (⟨#[100, 116, 110, 58]⟩ : ByteArray) ++ s = strL (dtnL ++ s.data.toList) := by
          rw [← strL_app, strL_data]; rfl
        rw [hno] at C2
        rw [ht, ep_name, ← eR]
        clear hc ht hno hn0 hv0 hnm eR he
        unfold epdV at *
        go_enter Tryz.func20, Tryz.ntmps20
        go_wp2_with fail
        refine C1.out.mono ?_
        rintro e w1 ⟨rfl, hb⟩
        have g1 := box_cells4 hb
        have HB := Lib.hid hb
        clear hb
        obtain ⟨g10, g11, g12, g13⟩ := g1
        go_wp2_with fail
        refine (C2.out _).mono ?_
        rintro e w2 ⟨rfl, hb⟩
        have hb' := hb.mono (Nat.le_trans (Nat.le_refl _) HB.out.size)
        have g2 := box_cells4 (HB.out.trans hb')
        have HB2 := Lib.hid hb
        clear hb hb'
        obtain ⟨g20, g21, g22, g23⟩ := g2
        go_wp2_with fail
        go_ret
        exact ⟨rfl, (((Below.refl _ _).alloc (Nat.le_refl _) _).trans (HB.out.mono (le_alloc _ _))).trans (HB2.out.mono (Nat.le_trans (le_alloc _ _) HB.out.size))⟩
    · obtain ⟨h2, hnm, -, -, -⟩ := check_ipn hc h1
      have h2' : sc = 2 := h2
      subst h2'
      have ht := textE_ipn hc rfl
      have hno : noneB (ep 2 s n v) = false := rfl
      rw [hno] at C2
      rw [ht, show (ep 2 s n v).node = n from rfl, show (ep 2 s n v).service = v from rfl]
      clear hc ht hno hnm h1 h2
      unfold epdV at *
      go_enter Tryz.func20, Tryz.ntmps20
      go_wp2_with fail
      refine C1.out.mono ?_
      rintro e w1 ⟨rfl, hb⟩
      have g1 := box_cells4 hb
      have HB := Lib.hid hb
      clear hb
      obtain ⟨g10, g11, g12, g13⟩ := g1
      go_wp2_with fail
      refine (C2.out _).mono ?_
      rintro e w2 ⟨rfl, hb⟩
      have hb' := hb.mono (Nat.le_trans (Nat.le_refl _) HB.out.size)
      have g2 := box_cells4 (HB.out.trans hb')
      have HB2 := Lib.hid hb
      clear hb hb'
      obtain ⟨g20, g21, g22, g23⟩ := g2
      go_wp2_with fail
      refine (C3.out _).mono ?_
      rintro e w3 ⟨rfl, hb⟩
      have HB3 := Lib.hid hb
      clear hb
      go_wp2_with fail
      go_ret
      exact ⟨rfl, ((((Below.refl _ _).alloc (Nat.le_refl _) _).trans (HB.out.mono (le_alloc _ _))).trans (HB2.out.mono (Nat.le_trans (le_alloc _ _) HB.out.size))).trans (HB3.out.mono (Nat.le_trans (Nat.le_trans (le_alloc _ _) HB.out.size) HB2.out.size))⟩
set_option maxRecDepth 100000 in
set_option maxHeartbeats 1000000 in
theorem node_any (A : Snt) (sc : Int) (s : ByteArray) (n v : Nat) (w : World) (hA : Lds A w) (hs : s.size ≤ 140737488355328) (hn : n < 18446744073709551616) :
    Calls Tryz.prog 22 #[epdV sc s n v] w fun e w' => e = .returned (.string (strL (nodeE (ep sc s n v)))) ∧ Below w.heap.size w w' := by
  have C1 := Lib.hid (ccheck_any A sc s n v (w.alloc (.cells #[.int .i64 sc, .string s, .int .u64 (n : Int), .int .u64 (v : Int)] 25)) (hA.alloc _) hs)
  have C2 := Lib.hid (fun W => none_any sc s n v W)
  have C3 := Lib.hid (fun W => ipntext_any n 0 W hn (by decide))
  clear hA
  cases hc : checkB (ep sc s n v) with
  | false =>
    have ht : nodeE (ep sc s n v) = [] := by unfold nodeE; rw [if_pos (.inl hc)]
    rw [ht]
    rw [hc] at C1
    clear hc ht
    unfold epdV at *
    go_enter Tryz.func22, Tryz.ntmps22
    go_wp2_with fail
    refine C1.out.mono ?_
    rintro e w1 ⟨rfl, hb⟩
    have HB := Lib.hid hb
    clear hb
    go_wp2_with fail
    go_ret
    exact ⟨rfl, ((Below.refl _ _).alloc (Nat.le_refl _) _).trans (HB.out.mono (le_alloc _ _))⟩
  | true =>
    rw [hc] at C1
    cases hno : noneB (ep sc s n v) with
    | true =>
      have ht : nodeE (ep sc s n v) = [] := by unfold nodeE; rw [if_pos (.inr hno)]
      rw [ht]
      rw [hno] at C2
      clear hc ht hno
      unfold epdV at *
      go_enter Tryz.func22, Tryz.ntmps22
      go_wp2_with fail
      refine C1.out.mono ?_
      rintro e w1 ⟨rfl, hb⟩
      have g1 := box_cells4 hb
      have HB := Lib.hid hb
      clear hb
      obtain ⟨g10, g11, g12, g13⟩ := g1
      go_wp2_with fail
      refine (C2.out _).mono ?_
      rintro e w2 ⟨rfl, hb⟩
      have HB2 := Lib.hid hb
      clear hb
      go_wp2_with fail
      go_ret
      exact ⟨rfl, (((Below.refl _ _).alloc (Nat.le_refl _) _).trans (HB.out.mono (le_alloc _ _))).trans (HB2.out.mono (Nat.le_trans (le_alloc _ _) HB.out.size))⟩
    | false =>
      rw [hno] at C2
      by_cases h1 : sc = 1
      · subst h1
        have hne : (ep 1 s n v).name ≠ [] := by
          intro h
          obtain ⟨hn0, hv0, -⟩ := check_dtn hc rfl
          have : noneB (ep 1 s n v) = true := by unfold noneB; rw [hn0, hv0, h]; rfl
          rw [this] at hno; cases hno
        obtain ⟨u, t, hp, -, hnd⟩ := dtn_all hc rfl hne
        rw [ep_name] at hp
        have hsl : s.data.toList = 47 :: 47 :: (u ++ 47 :: t) := hp.1
        have h64 : s.size ≤ 64 := by rw [Lib.size_eq]; exact hp.2.2.2.2
        have h2s : 2 ≤ s.size := by rw [Lib.size_eq, hsl]; simp
        have hul : u.length ≤ 64 := by have h := hp.2.2.2.2; rw [hsl] at h; simp at h; omega
        have hns : ∀ c ∈ u, c ≠ 47 := fun c hcu => letter_no_slash (hp.2.2.1 c hcu)
        have ex : s.extract 2 s.size = strL (u ++ 47 :: t) := by
          rw [Lib.extract_eq, hsl]
          unfold strL
          rw [List.take_of_length_le]
          · rfl
          · rw [← hsl, List.length_drop, ← Lib.size_eq]; exact Nat.le_refl _
        have C4 := Lib.hid (fun W => cut_any (s.extract 2 s.size) 47 W (by rw [ByteArray.size_extract]; omega))
        unfold cutV at C4
        have e1 : (⟨(ahead 47 (s.extract 2 s.size).data.toList).toArray⟩ : ByteArray) = strL u := by
          rw [ex, strL_list, ahead_app t hns]; rfl
        rw [e1] at C4
        generalize (⟨(behind 47 (s.extract 2 s.size).data.toList).toArray⟩ : ByteArray) = bh at *
        generalize hasB 47 (s.extract 2 s.size).data.toList = hh at *
        have eR : (⟨#[100, 116, 110, 58, 47, 47]⟩ : ByteArray) ++ strL u ++ ⟨#[47]⟩ = strL (dtnL ++ 47 :: 47 :: (u ++ [47])) := by
          rw [show (⟨#[100, 116, 110, 58, 47, 47]⟩ : ByteArray) = strL (dtnL ++ [47, 47]) from rfl, show (⟨#[47]⟩ : ByteArray) = strL [47] from rfl, strL_app, strL_app]
          simp
        rw [hnd, ← eR]
        have hus : (strL u).size ≤ 64 := by rw [strL_size]; exact hul
        generalize strL u = us at *
        clear hc hno hne hnd hp hsl hul hns ex e1 eR
        unfold epdV at *
        go_enter Tryz.func22, Tryz.ntmps22
        go_wp2_with fail
        refine C1.out.mono ?_
        rintro e w1 ⟨rfl, hb⟩
        have g1 := box_cells4 hb
        have HB := Lib.hid hb
        clear hb
        obtain ⟨g10, g11, g12, g13⟩ := g1
        go_wp2_with fail
        refine (C2.out _).mono ?_
        rintro e w2 ⟨rfl, hb⟩
        have hb' := hb.mono (Nat.le_trans (Nat.le_refl _) HB.out.size)
        have g2 := box_cells4 (HB.out.trans hb')
        have HB2 := Lib.hid hb
        clear hb hb'
        obtain ⟨g20, g21, g22, g23⟩ := g2
        go_wp2_with fail
        refine (C4.out _).mono ?_
        rintro e w3 ⟨rfl, m, rfl⟩
        go_wp2_with fail
        go_ret
        exact ⟨rfl, ((((Below.refl _ _).alloc (Nat.le_refl _) _).trans (HB.out.mono (le_alloc _ _))).trans (HB2.out.mono (Nat.le_trans (le_alloc _ _) HB.out.size))).trans (drewN_below m)⟩
      · obtain ⟨h2, hnm, -, -, -⟩ := check_ipn hc h1
        have h2' : sc = 2 := h2
        subst h2'
        have ht := nodeE_ipn hc rfl
        have e48 : (46 :: decDigits 0 : List UInt8) = [46, 48] := by rw [dec_small (by decide)]; rfl
        rw [e48] at C3
        rw [ht, show (ep 2 s n v).node = n from rfl]
        clear hc ht hno hnm h1 h2 e48
        unfold epdV at *
        go_enter Tryz.func22, Tryz.ntmps22
        go_wp2_with fail
        refine C1.out.mono ?_
        rintro e w1 ⟨rfl, hb⟩
        have g1 := box_cells4 hb
        have HB := Lib.hid hb
        clear hb
        obtain ⟨g10, g11, g12, g13⟩ := g1
        go_wp2_with fail
        refine (C2.out _).mono ?_
        rintro e w2 ⟨rfl, hb⟩
        have hb' := hb.mono (Nat.le_trans (Nat.le_refl _) HB.out.size)
        have g2 := box_cells4 (HB.out.trans hb')
        have HB2 := Lib.hid hb
        clear hb hb'
        obtain ⟨g20, g21, g22, g23⟩ := g2
        go_wp2_with fail
        refine (C3.out _).mono ?_
        rintro e w3 ⟨rfl, hb⟩
        have HB3 := Lib.hid hb
        clear hb
        go_wp2_with fail
        go_ret
        exact ⟨rfl, ((((Below.refl _ _).alloc (Nat.le_refl _) _).trans (HB.out.mono (le_alloc _ _))).trans (HB2.out.mono (Nat.le_trans (le_alloc _ _) HB.out.size))).trans (HB3.out.mono (Nat.le_trans (Nat.le_trans (le_alloc _ _) HB.out.size) HB2.out.size))⟩
end Go.Proofs.YtlecbblmaadpiaaGreatDoor
/- What behindScheme of layer 4 returns. -/
namespace Go.Proofs.YtlecbblmaadpiaaGreatDoor
open Go.RowKit
def behI (e : Epd) : Itm := if e.scheme = 2 then .mk 4 0 [] [.mk 0 e.node [] [], .mk 0 e.service [] []] else if e.name = [] then .mk 0 0 [] [] else .mk 3 0 e.name []
theorem itemE_beh (e : Epd) : itemE e = .mk 4 0 [] [.mk 0 e.scheme.toNat [] [], behI e] := rfl
theorem put4_cell {W : World} {g : Nat} {p : Addr} {u v0 v1 v2 v3 : Value} (h : W.cell? p = some u) (hg : ¬ g = p.block) : ((((W.setCell ⟨g, 0, none⟩ v0).setCell ⟨g, 1, none⟩ v1).setCell ⟨g, 2, none⟩ v2).setCell ⟨g, 3, none⟩ v3).cell? p = some u := by
  rw [World.cell?_setCell_far _ _ _ _ hg, World.cell?_setCell_far _ _ _ _ hg, World.cell?_setCell_far _ _ _ _ hg, World.cell?_setCell_far _ _ _ _ hg]
  exact h
theorem RdIs.two_ {lo : Nat} {W : World} {a0 a1 a2 a3 b0 b1 b2 b3 : Value} {x y : Itm} {t : TypeId} (hlo : lo ≤ W.heap.size) (h1 : RdI (mask (lows lo) W) W.heap.size (.agg #[a0, a1, a2, a3]) x) (h2 : RdI (mask (lows lo) W) W.heap.size (.agg #[b0, b1, b2, b3]) y) :
    RdIs (mask (lows lo) (W.alloc (.cells #[a0, a1, a2, a3, b0, b1, b2, b3] t))) (W.heap.size + 1) W.heap.size 0 [x, y] := by
  have hb := (Below.refl W.heap.size W).alloc (Nat.le_refl _) (.cells #[a0, a1, a2, a3, b0, b1, b2, b3] t)
  have hs : (W.alloc (.cells #[a0, a1, a2, a3, b0, b1, b2, b3] t)).heap.size = W.heap.size + 1 := by simp
  have k1 := h1.grow hb (Nat.le_refl lo)
  have k2 := h2.grow hb (Nat.le_refl lo)
  rw [hs] at k1 k2
  have hc : ∀ j u, (#[a0, a1, a2, a3, b0, b1, b2, b3] : Array Value)[j]? = some u → (mask (lows lo) (W.alloc (.cells #[a0, a1, a2, a3, b0, b1, b2, b3] t))).cell? ⟨W.heap.size, j, none⟩ = some u := fun j u hj => by
    rw [mask_cell (lows_f.2 hlo), World.cell?_alloc_at _ _ _ _ rfl]
    exact hj
  rw [RdIs, RdIs, RdIs]
  exact ⟨⟨a0, a1, a2, a3, hc 0 _ rfl, hc 1 _ rfl, hc 2 _ rfl, hc 3 _ rfl, k1⟩, ⟨b0, b1, b2, b3, hc 4 _ rfl, hc 5 _ rfl, hc 6 _ rfl, hc 7 _ rfl, k2⟩, trivial⟩
theorem carray_two {lo : Nat} {W : World} {a0 a1 a2 a3 b0 b1 b2 b3 : Value} {x y : Itm} (hlo : lo ≤ W.heap.size) (h1 : RdI (mask (lows lo) W) W.heap.size (.agg #[a0, a1, a2, a3]) x) (h2 : RdI (mask (lows lo) W) W.heap.size (.agg #[b0, b1, b2, b3]) y) (hp : pars [x, y] ≤ 1000000) :
    Calls Tryz.prog 114 #[.slice (some ⟨W.heap.size, 0, none⟩) 2 2] (W.alloc (.cells #[a0, a1, a2, a3, b0, b1, b2, b3] 30)) (GivesL lo (.mk 4 0 [] [x, y]) (W.alloc (.cells #[a0, a1, a2, a3, b0, b1, b2, b3] 30))) :=
  carrayS_any (lows lo) W.heap.size 0 2 2 (W.heap.size + 1) [x, y] (W.alloc (.cells #[a0, a1, a2, a3, b0, b1, b2, b3] 30)) (fun k hk => by have h1 := decide_eq_true_iff.1 hk; simp; omega) (Nat.le_of_eq (by simp)) (Nat.lt_succ_self _) (RdIs.two_ hlo h1 h2) rfl (by decide) hp (Nat.le_refl _)
set_option maxRecDepth 100000 in
set_option maxHeartbeats 300000 in
theorem ebehind_any (sc : Int) (s : ByteArray) (n v : Nat) (w : World) (hc : checkB (ep sc s n v) = true) (hs : s.size ≤ 140737488355328) (hn : n < 18446744073709551616) (hv : v < 18446744073709551616) :
    Calls Tryz.prog 116 #[epdV sc s n v] w (GivesL w.heap.size (behI (ep sc s n v)) w) := by
  have C2 := Lib.hid (fun W => none_any sc s n v W)
  by_cases h1 : sc = 1
  · subst h1
    obtain ⟨hn0, hv0, -⟩ := check_dtn hc rfl
    have CU := Lib.hid (fun (lo : Nat) (W : World) => cuintL_any lo 0 W (by decide))
    have CT := Lib.hid (fun (lo : Nat) (W : World) h => ctextL_any lo s W h hs)
    by_cases he : s.data.toList = []
    · have hno : noneB (ep 1 s n v) = true := by
        unfold noneB
        rw [hn0, hv0, show (ep 1 s n v).name = [] from he]
        rfl
      have hbi : behI (ep 1 s n v) = .mk 0 0 [] [] := by
        unfold behI
        rw [if_neg (show ¬ (ep 1 s n v).scheme = 2 by show ¬ (1 : Int) = 2; decide), if_pos (show (ep 1 s n v).name = [] from he)]
      rw [hno] at C2
      rw [hbi]
      clear hc hno hbi hn0 hv0 he
      unfold epdV at *
      go_enter Tryz.func116, Tryz.ntmps116
      go_wp2_with fail
      refine (C2.out _).mono ?_
      rintro e w1 ⟨rfl, hb⟩
      have HB := Lib.hid hb
      clear hb
      go_wp2_with fail
      refine (CU.out (w.heap.size + 2) _).mono ?_
      rintro e w2 ⟨v2, rfl, hv2, hb⟩
      obtain ⟨k2, n2, A2, nd2, cd2, AL2, nl2, cl2, rfl⟩ := hv2.form
      have hb2 := (HB.out.trans (hb.mono HB.out.size)).mono (show w.heap.size + 2 ≤ _ by simp)
      obtain ⟨⟨z0, z1, z2, z3⟩, f0, f1, f2, f3⟩ := zero4 (g := w.heap.size + 1) (by simp) hb2
      have HB2 := Lib.hid hb2
      have HV2 := Lib.hid hv2
      clear hb hb2 hv2
      go_wp2_with fail
      refine bodyPost_ret (v := .agg #[.int .i64 k2, .int .u64 (n2 : Int), .slice A2 nd2 cd2, .slice AL2 nl2 cl2]) (by simp [results, Tryz.results116, go_sem, z0, z1, z2, z3]) rfl ⟨_, rfl, ?_, ?_⟩
      · exact HV2.out.put4 (Nat.le_add_right _ 2) (Nat.lt_succ_self _) (Nat.le_of_eq size_put4.symm)
      · exact below_set4 ((((Below.refl _ _).alloc (Nat.le_refl _) _).alloc (le_alloc _ _) _).trans (HB2.out.mono (Nat.le_add_right _ 2))) (Nat.le_succ _)
    · have hno : noneB (ep 1 s n v) = false := by
        unfold noneB
        have : (ep 1 s n v).name.isEmpty = false := by rw [ep_name]; cases hh : s.data.toList with | nil => exact absurd hh he | cons a l => rfl
        rw [this, Bool.false_and, Bool.and_false]
      have hbi : behI (ep 1 s n v) = .mk 3 0 s.data.toList [] := by
        unfold behI
        rw [if_neg (show ¬ (ep 1 s n v).scheme = 2 by show ¬ (1 : Int) = 2; decide), if_neg (show ¬ (ep 1 s n v).name = [] from he)]
        rfl
      rw [hno] at C2
      rw [hbi]
      clear hc hno hbi hn0 hv0 he
      unfold epdV at *
      go_enter Tryz.func116, Tryz.ntmps116
      go_wp2_with fail
      refine (C2.out _).mono ?_
      rintro e w1 ⟨rfl, hb⟩
      have g1 := box_cells4 ((((Below.refl (w.alloc (.cells #[.int .i64 1, .string s, .int .u64 (n : Int), .int .u64 (v : Int)] 25)).heap.size _).alloc (Nat.le_refl _) _)).trans (hb.mono (le_alloc _ _)))
      have HB := Lib.hid hb
      clear hb
      obtain ⟨g10, g11, g12, g13⟩ := g1
      go_wp2_with fail
      refine (CT.out (w.heap.size + 2) _ (by have h := HB.out.size; simpa using h)).mono ?_
      rintro e w2 ⟨v2, rfl, hv2, hb⟩
      obtain ⟨k2, n2, A2, nd2, cd2, AL2, nl2, cl2, rfl⟩ := hv2.form
      have hb2 := (HB.out.trans (hb.mono HB.out.size)).mono (show w.heap.size + 2 ≤ _ by simp)
      obtain ⟨⟨z0, z1, z2, z3⟩, f0, f1, f2, f3⟩ := zero4 (g := w.heap.size + 1) (by simp) hb2
      have HB2 := Lib.hid hb2
      have HV2 := Lib.hid hv2
      clear hb hb2 hv2
      go_wp2_with fail
      refine bodyPost_ret (v := .agg #[.int .i64 k2, .int .u64 (n2 : Int), .slice A2 nd2 cd2, .slice AL2 nl2 cl2]) (by simp [results, Tryz.results116, go_sem, z0, z1, z2, z3]) rfl ⟨_, rfl, ?_, ?_⟩
      · exact HV2.out.put4 (Nat.le_add_right _ 2) (Nat.lt_succ_self _) (Nat.le_of_eq size_put4.symm)
      · exact below_set4 ((((Below.refl _ _).alloc (Nat.le_refl _) _).alloc (le_alloc _ _) _).trans (HB2.out.mono (Nat.le_add_right _ 2))) (Nat.le_succ _)
  · obtain ⟨h2, hnm, -, -, -⟩ := check_ipn hc h1
    have h2' : sc = 2 := h2
    subst h2'
    have hno : noneB (ep 2 s n v) = false := rfl
    have hbi : behI (ep 2 s n v) = .mk 4 0 [] [.mk 0 n [] [], .mk 0 v [] []] := rfl
    rw [hno] at C2
    rw [hbi]
    have CU1 := Lib.hid (fun (W : World) => cuintL_any (w.heap.size + 2) n W hn)
    have CU2 := Lib.hid (fun (W : World) => cuintL_any (w.heap.size + 2) v W hv)
    have hpar : pars [.mk 0 n [] [], .mk 0 v [] []] ≤ 1000000 := by simp [pars, par]
    have HPAR := Lib.hid hpar
    clear hc hno hbi hnm h1 h2 hpar
    unfold epdV at *
    go_enter Tryz.func116, Tryz.ntmps116
    go_wp2_with fail
    refine (C2.out _).mono ?_
    rintro e w1 ⟨rfl, hb⟩
    have g1 := box_cells4 ((((Below.refl (w.alloc (.cells #[.int .i64 2, .string s, .int .u64 (n : Int), .int .u64 (v : Int)] 25)).heap.size _).alloc (Nat.le_refl _) _)).trans (hb.mono (le_alloc _ _)))
    have HB := Lib.hid (hb.mono (show w.heap.size + 2 ≤ _ by simp))
    have HZ1 : Hid (w.heap.size + 2 ≤ w1.heap.size) := by show _ ≤ _; have h := hb.size; simpa using h
    clear hb
    obtain ⟨g10, g11, g12, g13⟩ := g1
    go_wp2_with fail
    have HNE : Hid (¬ w.heap.size + 1 = w.heap.size) := Nat.succ_ne_self _
    have hlt0 : w.heap.size < w1.heap.size := Nat.lt_of_lt_of_le (by omega) HZ1.out
    go_region_held3 (fun W => W.cell? ⟨w.heap.size, 2, none⟩ = some (.int .u64 (n : Int)) ∧ W.cell? ⟨w.heap.size, 3, none⟩ = some (.int .u64 (v : Int)))
      (first | (with_reducible exact ⟨x2, x3⟩) | (with_reducible exact ⟨put4_cell x2 HNE.out, put4_cell x3 HNE.out⟩) | (with_reducible exact ⟨u2, u3⟩) | (with_reducible exact ⟨(World.cell?_alloc_lt w3 _ ⟨w.heap.size, 2, none⟩ H3.out).trans u2, (World.cell?_alloc_lt w3 _ ⟨w.heap.size, 3, none⟩ H3.out).trans u3⟩) | (with_reducible exact ⟨t2, t3⟩) | (exact ⟨g12, g13⟩) | fail)
      (first
        | (go_at_call 115; have _g := V2; clear _g; refine (CU2.out _).mono ?_; rintro e w3 ⟨v3, rfl, hv3, hb3⟩; have V3 := Lib.hid (V2.out.grow hb3 (Nat.le_refl _)); have hb3' := B2.out.trans (hb3.mono B2.out.size); have u2 := (hb3'.cell (p := ⟨w.heap.size, 2, none⟩) hlt0).trans g12; have u3 := (hb3'.cell (p := ⟨w.heap.size, 3, none⟩) hlt0).trans g13; obtain ⟨k3, n3, A3, nd3, cd3, AL3, nl3, cl3, rfl⟩ := hv3.form; have W3 := Lib.hid hv3; have B3 := Lib.hid hb3'; have H3 : Hid (w.heap.size < w3.heap.size) := Nat.lt_of_lt_of_le hlt0 hb3'.size; clear hv3 hb3 hb3')
        | (go_at_call 115; refine (CU1.out _).mono ?_; rintro e w2 ⟨v2, rfl, hv2, hb2⟩; have hb2' : Below w1.heap.size w1 w2 := Below.drew_.trans hb2; have t2 := (hb2'.cell (p := ⟨w.heap.size, 2, none⟩) hlt0).trans g12; have t3 := (hb2'.cell (p := ⟨w.heap.size, 3, none⟩) hlt0).trans g13; obtain ⟨k2, n2, A2, nd2, cd2, AL2, nl2, cl2, rfl⟩ := hv2.form; have V2 := Lib.hid hv2; have B2 := Lib.hid hb2'; clear hv2 hb2 hb2')
        | (go_at_call 114; refine (carray_two (Nat.le_trans HZ1.out B3.out.size) V3.out W3.out HPAR.out).mono ?_; rintro e w4 ⟨v4, rfl, hv4, hb4⟩; have hb4' := (B3.out.alloc B3.out.size _).trans (hb4.mono (Nat.le_trans B3.out.size (le_alloc _ _))); have x2 := (hb4'.cell (p := ⟨w.heap.size, 2, none⟩) hlt0).trans g12; have x3 := (hb4'.cell (p := ⟨w.heap.size, 3, none⟩) hlt0).trans g13; obtain ⟨k4, n4, A4, nd4, cd4, AL4, nl4, cl4, rfl⟩ := hv4.form; have V4 := Lib.hid hv4; have hb5 := HB.out.trans (hb4'.mono HZ1.out); obtain ⟨⟨z0, z1, z2, z3⟩, f0, f1, f2, f3⟩ := zero4 (g := w.heap.size + 1) (by simp) hb5; have B4 := Lib.hid hb5; clear hv4 hb4 hb4' hb5)
        | fail)
    go_wp2_with fail
    refine bodyPost_ret (v := .agg #[.int .i64 k4, .int .u64 (n4 : Int), .slice A4 nd4 cd4, .slice AL4 nl4 cl4]) (by simp [results, Tryz.results116, go_sem, z0, z1, z2, z3]) rfl ⟨_, rfl, ?_, ?_⟩
    · exact V4.out.put4 (Nat.le_add_right _ 2) (Nat.lt_succ_self _) (Nat.le_of_eq size_put4.symm)
    · exact below_set4 ((((Below.refl _ _).alloc (Nat.le_refl _) _).alloc (le_alloc _ _) _).trans (B4.out.mono (Nat.le_add_right _ 2))) (Nat.le_succ _)
end Go.Proofs.YtlecbblmaadpiaaGreatDoor
