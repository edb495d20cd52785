/- What ipnText, Text and Node of layer 4 return. -/
import Derived.Test.YtlncacfflalacaaDoorEidC2
import Derived.Test.YtlncacfflalacaaDoorEidD
namespace Go.Proofs.YtlncacfflalacaaDoor
open Go.RowKit
open Go.Lib (decDigits)

def strL (l : List UInt8) : ByteArray := ⟨l.toArray⟩
theorem strL_app (a b : List UInt8) : strL a ++ strL b = strL (a ++ b) := by
  apply ByteArray.ext
  unfold strL
  simp [ByteArray.data_append]
theorem strL_data (s : ByteArray) : strL s.data.toList = s := Lib.mk_data s
theorem strL_list (l : List UInt8) : (strL l).data.toList = l := by unfold strL; simp
theorem strL_size (l : List UInt8) : (strL l).size = l.length := by rw [Lib.size_eq, strL_list]
theorem nd20 (n : Nat) (h : n < 18446744073709551616) : (decDigits n).length ≤ 20 := by
  have key : ∀ (k n : Nat), n < 10 ^ (k + 1) → (decDigits n).length ≤ k + 1 := by
    intro k
    induction k with
    | zero => intro n hn; rw [dec_small (by omega)]; simp
    | succ k ih =>
      intro n hn
      by_cases h10 : n < 10
      · rw [dec_small h10]; simp
      · rw [dec_big h10, List.length_append]
        have := ih (n / 10) (by rw [Nat.div_lt_iff_lt_mul (by decide)]; rw [Nat.pow_succ] at hn; exact hn)
        simp only [List.length_singleton]
        omega
  exact key 19 n (Nat.lt_of_lt_of_le h (by decide))

set_option maxRecDepth 100000 in
set_option maxHeartbeats 1000000 in
theorem ipntext_any (n v : Nat) (w : World) (hn : n < 18446744073709551616) (hv : v < 18446744073709551616) :
    Calls Tryd.prog 16 #[.int .u64 (n : Int), .int .u64 (v : Int)] w fun e w' => e = .returned (.string (strL (ipnL ++ (decDigits n ++ (46 :: decDigits v))))) ∧ Below w.heap.size w w' := by
  have C1 := Lib.hid (fun W => dec_any (n : Int) W (by omega) (by omega))
  have C2 := Lib.hid (fun W => dec_any (v : Int) W (by omega) (by omega))
  rw [Int.toNat_natCast] at C1 C2
  have l1 := nd20 n hn
  have l2 := nd20 v hv
  have e1 : (⟨(decDigits n).toArray⟩ : ByteArray) = strL (decDigits n) := rfl
  have e2 : (⟨(decDigits v).toArray⟩ : ByteArray) = strL (decDigits v) := rfl
  rw [e1] at C1
  rw [e2] at C2
  have eR : ((⟨#[105, 112, 110, 58]⟩ : ByteArray) ++ strL (decDigits n) ++ ⟨#[46]⟩) ++ strL (decDigits v) = strL (ipnL ++ (decDigits n ++ (46 :: decDigits v))) := by
    rw [show (⟨#[105, 112, 110, 58]⟩ : ByteArray) = strL ipnL from rfl, show (⟨#[46]⟩ : ByteArray) = strL [46] from rfl, strL_app, strL_app, strL_app]
    congr 1
    simp
  have s1 : (strL (decDigits n)).size ≤ 20 := by rw [strL_size]; exact l1
  have s2 : (strL (decDigits v)).size ≤ 20 := by rw [strL_size]; exact l2
  rw [← eR]
  generalize strL (decDigits n) = N at *
  generalize strL (decDigits v) = V at *
  clear e1 e2 l1 l2 eR
  go_enter Tryd.func16, Tryd.ntmps16
  go_wp2_with fail
  refine (C1.out _).mono ?_
  rintro e w1 ⟨rfl, hb⟩
  have HB := Lib.hid hb
  clear hb
  go_wp2_with fail
  refine (C2.out _).mono ?_
  rintro e w2 ⟨rfl, hb⟩
  have HB2 := Lib.hid hb
  clear hb
  go_wp2_with fail
  go_ret
  exact ⟨rfl, HB.out.trans (HB2.out.mono HB.out.size)⟩

/-- The four cells of a box of its own, behind what leaves them. -/
theorem box_cells4 {w w' : World} {c0 c1 c2 c3 : Value} {t : TypeId} (h : Below (w.alloc (.cells #[c0, c1, c2, c3] t)).heap.size (w.alloc (.cells #[c0, c1, c2, c3] t)) w') :
    w'.cell? ⟨w.heap.size, 0, none⟩ = some c0 ∧ w'.cell? ⟨w.heap.size, 1, none⟩ = some c1 ∧ w'.cell? ⟨w.heap.size, 2, none⟩ = some c2 ∧ w'.cell? ⟨w.heap.size, 3, none⟩ = some c3 := by
  refine ⟨?_, ?_, ?_, ?_⟩ <;> (rw [h.cell (by simp), World.cell?_alloc_at _ _ _ _ rfl]; rfl)
theorem ep_name (sc : Int) (s : ByteArray) (n v : Nat) : (ep sc s n v).name = s.data.toList := rfl

set_option maxRecDepth 100000 in
set_option maxHeartbeats 1000000 in
theorem text_any (A : Snt) (sc : Int) (s : ByteArray) (n v : Nat) (w : World) (hA : Lds A w) (hs : s.size ≤ 140737488355328) (hn : n < 18446744073709551616) (hv : v < 18446744073709551616) :
    Calls Tryd.prog 9 #[epdV sc s n v] w fun e w' => e = .returned (.string (strL (textE (ep sc s n v)))) ∧ Below w.heap.size w w' := by
  have C1 := Lib.hid (ccheck_any A sc s n v (w.alloc (.cells #[.int .i64 sc, .string s, .int .u64 (n : Int), .int .u64 (v : Int)] 25)) (hA.alloc _) hs)
  have C2 := Lib.hid (fun W => none_any sc s n v W)
  have C3 := Lib.hid (fun W => ipntext_any n v W hn hv)
  clear hA
  cases hc : checkB (ep sc s n v) with
  | false =>
    have ht : textE (ep sc s n v) = [] := by unfold textE; rw [if_pos hc]
    rw [ht]
    rw [hc] at C1
    clear hc ht
    unfold epdV at *
    go_enter Tryd.func9, Tryd.ntmps9
    go_wp2_with fail
    refine C1.out.mono ?_
    rintro e w1 ⟨rfl, hb⟩
    have HB := Lib.hid hb
    clear hb
    go_wp2_with fail
    go_ret
    exact ⟨rfl, ((Below.refl _ _).alloc (Nat.le_refl _) _).trans (HB.out.mono (le_alloc _ _))⟩
  | true =>
    rw [hc] at C1
    by_cases h1 : sc = 1
    · subst h1
      obtain ⟨hn0, hv0, hnm⟩ := check_dtn hc rfl
      have hs64 : s.size ≤ 64 := by
        rw [ep_name] at hnm
        rw [Lib.size_eq]
        rcases hnm with h | h
        · rw [h]; simp
        · obtain ⟨r, -, -, -, -, h⟩ := name_head h; exact h
      by_cases he : s.data.toList = []
      · have ht := textE_none hc rfl (show (ep 1 s n v).name = [] from he)
        have hno : noneB (ep 1 s n v) = true := by
          unfold noneB
          rw [hn0, hv0, show (ep 1 s n v).name = [] from he]
          rfl
        rw [hno] at C2
        rw [ht]
        clear hc ht hno hn0 hv0 hnm
        unfold epdV at *
        go_enter Tryd.func9, Tryd.ntmps9
        go_wp2_with fail
        refine C1.out.mono ?_
        rintro e w1 ⟨rfl, hb⟩
        have g1 := box_cells4 hb
        have HB := Lib.hid hb
        clear hb
        obtain ⟨g10, g11, g12, g13⟩ := g1
        go_wp2_with fail
        refine (C2.out _).mono ?_
        rintro e w2 ⟨rfl, hb⟩
        have HB2 := Lib.hid hb
        clear hb
        go_wp2_with fail
        go_ret
        exact ⟨rfl, (((Below.refl _ _).alloc (Nat.le_refl _) _).trans (HB.out.mono (le_alloc _ _))).trans (HB2.out.mono (Nat.le_trans (le_alloc _ _) HB.out.size))⟩
      · have ht := textE_dtn hc rfl (show (ep 1 s n v).name ≠ [] from he)
        have hno : noneB (ep 1 s n v) = false := by
          unfold noneB
          have : (ep 1 s n v).name.isEmpty = false := by rw [ep_name]; cases hh : s.data.toList with | nil => exact absurd hh he | cons a l => rfl
          rw [this, Bool.false_and, Bool.and_false]
        have eR : (⟨#[100, 116, 110, 58]⟩ : ByteArray) ++ s = strL (dtnL ++ s.data.toList) := by
          rw [← strL_app, strL_data]; rfl
        rw [hno] at C2
        rw [ht, ep_name, ← eR]
        clear hc ht hno hn0 hv0 hnm eR he
        unfold epdV at *
        go_enter Tryd.func9, Tryd.ntmps9
        go_wp2_with fail
        refine C1.out.mono ?_
        rintro e w1 ⟨rfl, hb⟩
        have g1 := box_cells4 hb
        have HB := Lib.hid hb
        clear hb
        obtain ⟨g10, g11, g12, g13⟩ := g1
        go_wp2_with fail
        refine (C2.out _).mono ?_
        rintro e w2 ⟨rfl, hb⟩
        have hb' := hb.mono (Nat.le_trans (Nat.le_refl _) HB.out.size)
        have g2 := box_cells4 (HB.out.trans hb')
        have HB2 := Lib.hid hb
        clear hb hb'
        obtain ⟨g20, g21, g22, g23⟩ := g2
        go_wp2_with fail
        go_ret
        exact ⟨rfl, (((Below.refl _ _).alloc (Nat.le_refl _) _).trans (HB.out.mono (le_alloc _ _))).trans (HB2.out.mono (Nat.le_trans (le_alloc _ _) HB.out.size))⟩
    · obtain ⟨h2, hnm, -, -, -⟩ := check_ipn hc h1
      have h2' : sc = 2 := h2
      subst h2'
      have ht := textE_ipn hc rfl
      have hno : noneB (ep 2 s n v) = false := rfl
      rw [hno] at C2
      rw [ht, show (ep 2 s n v).node = n from rfl, show (ep 2 s n v).service = v from rfl]
      clear hc ht hno hnm h1 h2
      unfold epdV at *
      go_enter Tryd.func9, Tryd.ntmps9
      go_wp2_with fail
      refine C1.out.mono ?_
      rintro e w1 ⟨rfl, hb⟩
      have g1 := box_cells4 hb
      have HB := Lib.hid hb
      clear hb
      obtain ⟨g10, g11, g12, g13⟩ := g1
      go_wp2_with fail
      refine (C2.out _).mono ?_
      rintro e w2 ⟨rfl, hb⟩
      have hb' := hb.mono (Nat.le_trans (Nat.le_refl _) HB.out.size)
      have g2 := box_cells4 (HB.out.trans hb')
      have HB2 := Lib.hid hb
      clear hb hb'
      obtain ⟨g20, g21, g22, g23⟩ := g2
      go_wp2_with fail
      refine (C3.out _).mono ?_
      rintro e w3 ⟨rfl, hb⟩
      have HB3 := Lib.hid hb
      clear hb
      go_wp2_with fail
      go_ret
      exact ⟨rfl, ((((Below.refl _ _).alloc (Nat.le_refl _) _).trans (HB.out.mono (le_alloc _ _))).trans (HB2.out.mono (Nat.le_trans (le_alloc _ _) HB.out.size))).trans (HB3.out.mono (Nat.le_trans (Nat.le_trans (le_alloc _ _) HB.out.size) HB2.out.size))⟩

set_option maxRecDepth 100000 in
set_option maxHeartbeats 1000000 in
theorem node_any (A : Snt) (sc : Int) (s : ByteArray) (n v : Nat) (w : World) (hA : Lds A w) (hs : s.size ≤ 140737488355328) (hn : n < 18446744073709551616) :
    Calls Tryd.prog 7 #[epdV sc s n v] w fun e w' => e = .returned (.string (strL (nodeE (ep sc s n v)))) ∧ Below w.heap.size w w' := by
  have C1 := Lib.hid (ccheck_any A sc s n v (w.alloc (.cells #[.int .i64 sc, .string s, .int .u64 (n : Int), .int .u64 (v : Int)] 25)) (hA.alloc _) hs)
  have C2 := Lib.hid (fun W => none_any sc s n v W)
  have C3 := Lib.hid (fun W => ipntext_any n 0 W hn (by decide))
  clear hA
  cases hc : checkB (ep sc s n v) with
  | false =>
    have ht : nodeE (ep sc s n v) = [] := by unfold nodeE; rw [if_pos (.inl hc)]
    rw [ht]
    rw [hc] at C1
    clear hc ht
    unfold epdV at *
    go_enter Tryd.func7, Tryd.ntmps7
    go_wp2_with fail
    refine C1.out.mono ?_
    rintro e w1 ⟨rfl, hb⟩
    have HB := Lib.hid hb
    clear hb
    go_wp2_with fail
    go_ret
    exact ⟨rfl, ((Below.refl _ _).alloc (Nat.le_refl _) _).trans (HB.out.mono (le_alloc _ _))⟩
  | true =>
    rw [hc] at C1
    cases hno : noneB (ep sc s n v) with
    | true =>
      have ht : nodeE (ep sc s n v) = [] := by unfold nodeE; rw [if_pos (.inr hno)]
      rw [ht]
      rw [hno] at C2
      clear hc ht hno
      unfold epdV at *
      go_enter Tryd.func7, Tryd.ntmps7
      go_wp2_with fail
      refine C1.out.mono ?_
      rintro e w1 ⟨rfl, hb⟩
      have g1 := box_cells4 hb
      have HB := Lib.hid hb
      clear hb
      obtain ⟨g10, g11, g12, g13⟩ := g1
      go_wp2_with fail
      refine (C2.out _).mono ?_
      rintro e w2 ⟨rfl, hb⟩
      have HB2 := Lib.hid hb
      clear hb
      go_wp2_with fail
      go_ret
      exact ⟨rfl, (((Below.refl _ _).alloc (Nat.le_refl _) _).trans (HB.out.mono (le_alloc _ _))).trans (HB2.out.mono (Nat.le_trans (le_alloc _ _) HB.out.size))⟩
    | false =>
      rw [hno] at C2
      by_cases h1 : sc = 1
      · subst h1
        have hne : (ep 1 s n v).name ≠ [] := by
          intro h
          obtain ⟨hn0, hv0, -⟩ := check_dtn hc rfl
          have : noneB (ep 1 s n v) = true := by unfold noneB; rw [hn0, hv0, h]; rfl
          rw [this] at hno; cases hno
        obtain ⟨u, t, hp, -, hnd⟩ := dtn_all hc rfl hne
        rw [ep_name] at hp
        have hsl : s.data.toList = 47 :: 47 :: (u ++ 47 :: t) := hp.1
        have h64 : s.size ≤ 64 := by rw [Lib.size_eq]; exact hp.2.2.2.2
        have h2s : 2 ≤ s.size := by rw [Lib.size_eq, hsl]; simp
        have hul : u.length ≤ 64 := by have h := hp.2.2.2.2; rw [hsl] at h; simp at h; omega
        have hns : ∀ c ∈ u, c ≠ 47 := fun c hcu => letter_no_slash (hp.2.2.1 c hcu)
        have ex : s.extract 2 s.size = strL (u ++ 47 :: t) := by
          rw [Lib.extract_eq, hsl]
          unfold strL
          rw [List.take_of_length_le]
          · rfl
          · rw [← hsl, List.length_drop, ← Lib.size_eq]; exact Nat.le_refl _
        have C4 := Lib.hid (fun W => cut_any (s.extract 2 s.size) 47 W (by rw [ByteArray.size_extract]; omega))
        unfold cutV at C4
        have e1 : (⟨(ahead 47 (s.extract 2 s.size).data.toList).toArray⟩ : ByteArray) = strL u := by
          rw [ex, strL_list, ahead_app t hns]; rfl
        rw [e1] at C4
        generalize (⟨(behind 47 (s.extract 2 s.size).data.toList).toArray⟩ : ByteArray) = bh at *
        generalize hasB 47 (s.extract 2 s.size).data.toList = hh at *
        have eR : (⟨#[100, 116, 110, 58, 47, 47]⟩ : ByteArray) ++ strL u ++ ⟨#[47]⟩ = strL (dtnL ++ 47 :: 47 :: (u ++ [47])) := by
          rw [show (⟨#[100, 116, 110, 58, 47, 47]⟩ : ByteArray) = strL (dtnL ++ [47, 47]) from rfl, show (⟨#[47]⟩ : ByteArray) = strL [47] from rfl, strL_app, strL_app]
          simp
        rw [hnd, ← eR]
        have hus : (strL u).size ≤ 64 := by rw [strL_size]; exact hul
        generalize strL u = us at *
        clear hc hno hne hnd hp hsl hul hns ex e1 eR
        unfold epdV at *
        go_enter Tryd.func7, Tryd.ntmps7
        go_wp2_with fail
        refine C1.out.mono ?_
        rintro e w1 ⟨rfl, hb⟩
        have g1 := box_cells4 hb
        have HB := Lib.hid hb
        clear hb
        obtain ⟨g10, g11, g12, g13⟩ := g1
        go_wp2_with fail
        refine (C2.out _).mono ?_
        rintro e w2 ⟨rfl, hb⟩
        have hb' := hb.mono (Nat.le_trans (Nat.le_refl _) HB.out.size)
        have g2 := box_cells4 (HB.out.trans hb')
        have HB2 := Lib.hid hb
        clear hb hb'
        obtain ⟨g20, g21, g22, g23⟩ := g2
        go_wp2_with fail
        refine (C4.out _).mono ?_
        rintro e w3 ⟨rfl, m, rfl⟩
        go_wp2_with fail
        go_ret
        exact ⟨rfl, ((((Below.refl _ _).alloc (Nat.le_refl _) _).trans (HB.out.mono (le_alloc _ _))).trans (HB2.out.mono (Nat.le_trans (le_alloc _ _) HB.out.size))).trans (drewN_below m)⟩
      · obtain ⟨h2, hnm, -, -, -⟩ := check_ipn hc h1
        have h2' : sc = 2 := h2
        subst h2'
        have ht := nodeE_ipn hc rfl
        have e48 : (46 :: decDigits 0 : List UInt8) = [46, 48] := by rw [dec_small (by decide)]; rfl
        rw [e48] at C3
        rw [ht, show (ep 2 s n v).node = n from rfl]
        clear hc ht hno hnm h1 h2 e48
        unfold epdV at *
        go_enter Tryd.func7, Tryd.ntmps7
        go_wp2_with fail
        refine C1.out.mono ?_
        rintro e w1 ⟨rfl, hb⟩
        have g1 := box_cells4 hb
        have HB := Lib.hid hb
        clear hb
        obtain ⟨g10, g11, g12, g13⟩ := g1
        go_wp2_with fail
        refine (C2.out _).mono ?_
        rintro e w2 ⟨rfl, hb⟩
        have hb' := hb.mono (Nat.le_trans (Nat.le_refl _) HB.out.size)
        have g2 := box_cells4 (HB.out.trans hb')
        have HB2 := Lib.hid hb
        clear hb hb'
        obtain ⟨g20, g21, g22, g23⟩ := g2
        go_wp2_with fail
        refine (C3.out _).mono ?_
        rintro e w3 ⟨rfl, hb⟩
        have HB3 := Lib.hid hb
        clear hb
        go_wp2_with fail
        go_ret
        exact ⟨rfl, ((((Below.refl _ _).alloc (Nat.le_refl _) _).trans (HB.out.mono (le_alloc _ _))).trans (HB2.out.mono (Nat.le_trans (le_alloc _ _) HB.out.size))).trans (HB3.out.mono (Nat.le_trans (Nat.le_trans (le_alloc _ _) HB.out.size) HB2.out.size))⟩
end Go.Proofs.YtlncacfflalacaaDoor
