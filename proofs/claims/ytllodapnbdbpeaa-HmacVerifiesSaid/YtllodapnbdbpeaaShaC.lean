/- What words of layer 7 returns: the 64 words of a block. -/
import Derived.Test.YtllodapnbdbpeaaShaB
import Derived.Test.YtllodapnbdbpeaaNumG
import Derived.Deep.RegionHeld3
import Derived.Laws.CopyOwn
import Derived.IntWalk
namespace Go.Proofs.Ytllodapnbdbpeaa
open Go.RowKit

/-- A cut 'b[i:j]'. -/
theorem Rd.mid {w : World} {B n i j : Nat} {A : Option Addr} {l : List UInt8} (h : Rd w B A n l) (hij : i ≤ j) (hj : j ≤ n) : Rd w B (A.map (·.add i)) (j - i) ((l.drop i).take (j - i)) :=
  (h.cut (k := i)).take (by omega)
theorem cut_lh {P : Program} {w : World} {B n : Nat} {A : Option Addr} {l : List UInt8} (t e : TypeId) (ht : P.underlying t = some (.slice e)) (hz : ∀ W : World, (sizeOf e).run P W = .ok 1 W) (c : Nat) (h : Rd w B A n l) (x y : Int) (i j : Nat) (hx : x = (i : Int)) (hy : y = (j : Int)) (hij : i < j) (hj : j ≤ n) (hc : n ≤ c) :
    ∃ A' c', (∀ W : World, (Instr.slice t (.slice A n c) (some (.int .i64 x)) (some (.int .i64 y)) none).run P W = .ok (.slice A' (j - i) c') W) ∧ j - i ≤ c' ∧ c' ≤ c ∧ Rd w B A' (j - i) ((l.drop i).take (j - i)) := by
  subst hx hy
  refine ⟨A.map (·.add i), c - i, fun W => ?_, by omega, by omega, h.mid (by omega) hj⟩
  have h1 : ¬ c = i := by omega
  have h2 : j ≤ c := by omega
  have h3 : i ≤ j := by omega
  go_simp

theorem wL_getD (b : List UInt8) (k j : Nat) : (wL b (k + 1)).getD j 0 = if j = k then wnx b (wL b k) k else (wL b k).getD j 0 := by
  have hl := wL_length b k
  by_cases h : j = k
  · subst h
    rw [if_pos rfl, wL]
    simp [List.getD, hl]
  · rw [if_neg h, wL]
    rcases Nat.lt_or_ge j k with h1 | h1
    · simp [List.getD, List.getElem?_append_left (show j < (wL b k).length by omega)]
    · simp [List.getD, List.getElem?_eq_none (l := wL b k) (i := j) (by omega), List.getElem?_eq_none (l := wL b k ++ [wnx b (wL b k) k]) (i := j) (by simp [hl]; omega)]

/-- The row of words behind k rounds. -/
def WRow (w : World) (g : Nat) (t : TypeId) (b : List UInt8) (k : Nat) : Prop := w.rowIs g t 64 (fun j => .int .u32 (((wL b k).getD j 0).toNat : Int))
theorem WRow.push {w : World} {g : Nat} {t : TypeId} {b : List UInt8} {k : Nat} (h : WRow w g t b k) {v : Value} (hv : v = .int .u32 ((wnx b (wL b k) k).toNat : Int)) : WRow (w.setCell ⟨g, k, none⟩ v) g t b (k + 1) := by
  subst hv
  refine (World.rowIs.set h k _).congr fun j _ => ?_
  rw [wL_getD]
  split <;> rfl
theorem rowIs_zero (w : World) (t : TypeId) (n : Nat) (z : Value) : (w.alloc (.cells (Array.replicate n z) t)).rowIs w.heap.size t n (fun _ => z) := by
  have h := World.rowIs_alloc w (Array.replicate n z) t (fun _ => z) (fun i hi => by
    have hi' : i < n := by simpa using hi
    simp [hi'])
  rwa [Array.size_replicate] at h
/-- The row as an array of cells. -/
theorem rowIs_cells {w : World} {g n : Nat} {t : TypeId} {l : List (BitVec 32)} (hl : l.length = n) (h : w.rowIs g t n (fun j => .int .u32 ((l.getD j 0).toNat : Int))) : w.heap[g]? = some (.cells (wc l).toArray t (0, 0)) := by
  obtain ⟨c, hb, hs, hc⟩ := h
  have e : c = (wc l).toArray := by
    apply Array.ext_getElem?
    intro i
    rcases Nat.lt_or_ge i n with hi | hi
    · rw [hc i hi, wc_get l i (by omega)]
    · rw [Array.getElem?_eq_none (by omega), Array.getElem?_eq_none (by rw [List.size_toArray, wc_length]; omega)]
  rw [hb, e]

theorem low32 (N : Nat) : Value.int .u32 ((N : Int) % 4294967296) = .int .u32 ((BitVec.ofNat 32 N).toNat : Int) := by
  rw [BitVec.toNat_ofNat]; rfl
theorem wnx_lo (b : List UInt8) (l : List (BitVec 32)) (k : Nat) (h : k < 16) : wnx b l k = BitVec.ofNat 32 (beNat ((b.drop (4 * k)).take 4)) := by unfold wnx; rw [if_pos h]
theorem wnx_hi (b : List UInt8) (l : List (BitVec 32)) (k : Nat) (h : ¬ k < 16) : wnx b l k = l.getD (k - 16) 0 + tT (l.getD (k - 15) 0) 7 18 3 + l.getD (k - 7) 0 + tT (l.getD (k - 2) 0) 17 19 10 := by unfold wnx; rw [if_neg h]

theorem below_dN (B : Nat) (w : World) (k : Nat) : Below B w (w.drewN k) := ⟨rfl, rfl, rfl, Nat.le_refl _, fun _ _ => rfl⟩

set_option maxRecDepth 100000 in
set_option maxHeartbeats 2000000 in
theorem cwords_any (A : Option Addr) (c B : Nat) (b : List UInt8) (w : World) (hr : Rd w B A 64 b) (hB : B ≤ w.heap.size) (hc : 64 ≤ c) (hc2 : c ≤ 9223372036854775807) :
    Calls Try.prog 38 #[.slice A 64 c] w fun e w' => e = .returned (.agg (wc (wL b 64)).toArray) ∧ Below w.heap.size w w' := by
  have HR := Lib.hid hr
  have HB := Lib.hid hB
  clear hr hB
  go_enter Try.func38, Try.ntmps38
  go_wp2_with (first
    | (refine wpList_allocZ rfl 56 rfl _ zero64v ?_)
    | fail)
  go_loopw [5] (fun i wr => ∃ k : Nat, k ≤ 64 ∧ i = .int .i64 k ∧ Hid (WRow wr (w.heap.size + 1) 56 b k) ∧ Hid (wr.heap[w.heap.size]? = some (.cells (Array.replicate 64 (.int .u32 0)) 56 (0, 0))) ∧ Hid (Below w.heap.size w wr))
    (fun i _ => 64 - (intOf i).toNat)
  case atStart =>
    refine ⟨0, by omega, rfl, ?_, ?_, ((Below.refl _ _).alloc (Nat.le_refl _) _).alloc (by simp) _⟩
    · have h := rowIs_zero (w.alloc (.cells (Array.replicate 64 (.int .u32 0)) 56)) 56 64 (.int .u32 0)
      have e : (w.alloc (.cells (Array.replicate 64 (.int .u32 0)) 56)).heap.size = w.heap.size + 1 := by simp
      rw [e] at h
      exact h.congr fun j _ => by simp [wL]
    · exact ((Below.refl (w.heap.size + 1) (w.alloc (.cells (Array.replicate 64 (.int .u32 0)) 56))).alloc (by simp) _).block w.heap.size (by omega) |>.trans (heap_alloc_new w _)
  case round =>
    obtain ⟨k, hk, rfl, hrow, hres, hbel⟩ := hrel
    by_cases hlt : k < 64
    · have hf1 : wr.frozen? ⟨w.heap.size + 1, k, none⟩ = false := World.rowIs.frozen hrow.out _
      have hc1 : wr.cell? ⟨w.heap.size + 1, k, none⟩ = some _ := World.rowIs.cell hrow.out hlt
      by_cases h16 : k < 16
      · obtain ⟨A', c', hsl, hc', hc'', hr'⟩ := cut_lh (P := Try.prog) 22 5 rfl size_u8 c (HR.out.below (hbel.out.mono HB.out)) (4 * (k : Int)) (4 * ((k : Int) + 1)) (4 * k) (4 * k + 4) (by omega) (by omega) (by omega) (by omega) hc
        rw [show 4 * k + 4 - 4 * k = 4 by omega] at hr' hsl hc'
        have C := Lib.hid (get_any A' 4 c' _ wr B hr' (by omega) hc' (by omega))
        have hw := Lib.hid (wnx_lo b (wL b k) k h16)
        clear hr'
        go_wp2_with fail
        refine C.out.mono ?_
        rintro e w1 ⟨rfl, rfl⟩
        go_wp2_with fail
        go_roundw
        case rel =>
          refine ⟨k + 1, by omega, by go_num, WRow.push hrow.out ?_, ?_, hbel.out.setCell (by simp) _⟩
          · rw [hw.out]; exact low32 _
          · exact (heap_setCell_other _ _ _ _ (by simp)).trans hres.out
        case measure => simp [intOf]; omega
      · have hrw := hrow.out
        obtain ⟨p0, hp0⟩ : ∃ p, p = k - 16 := ⟨_, rfl⟩
        obtain ⟨p1, hp1⟩ : ∃ p, p = k - 15 := ⟨_, rfl⟩
        obtain ⟨p2, hp2⟩ : ∃ p, p = k - 7 := ⟨_, rfl⟩
        obtain ⟨p3, hp3⟩ : ∃ p, p = k - 2 := ⟨_, rfl⟩
        have hw := wnx_hi b (wL b k) k h16
        rw [← hp0, ← hp1, ← hp2, ← hp3] at hw
        obtain ⟨x0, hx0⟩ : ∃ x, x = (wL b k).getD p0 0 := ⟨_, rfl⟩
        obtain ⟨x1, hx1⟩ : ∃ x, x = (wL b k).getD p1 0 := ⟨_, rfl⟩
        obtain ⟨x2, hx2⟩ : ∃ x, x = (wL b k).getD p2 0 := ⟨_, rfl⟩
        obtain ⟨x3, hx3⟩ : ∃ x, x = (wL b k).getD p3 0 := ⟨_, rfl⟩
        have c0 : wr.cell? ⟨w.heap.size + 1, p0, none⟩ = some (.int .u32 (x0.toNat : Int)) := by rw [hx0]; exact World.rowIs.cell hrw (by omega)
        have c1 : wr.cell? ⟨w.heap.size + 1, p1, none⟩ = some (.int .u32 (x1.toNat : Int)) := by rw [hx1]; exact World.rowIs.cell hrw (by omega)
        have c2 : wr.cell? ⟨w.heap.size + 1, p2, none⟩ = some (.int .u32 (x2.toNat : Int)) := by rw [hx2]; exact World.rowIs.cell hrw (by omega)
        have c3 : wr.cell? ⟨w.heap.size + 1, p3, none⟩ = some (.int .u32 (x3.toNat : Int)) := by rw [hx3]; exact World.rowIs.cell hrw (by omega)
        rw [← hx0, ← hx1, ← hx2, ← hx3] at hw
        have HW := Lib.hid hw
        have ne : ∀ p, p ≠ k → (⟨w.heap.size + 1, k, none⟩ : Addr) ≠ ⟨w.heap.size + 1, p, none⟩ := fun p h e => h (by injection e with _ e; exact e.symm)
        have K0 := Lib.hid (show ∀ (W : World) (v : Value), (W.setCell ⟨w.heap.size + 1, k, none⟩ v).cell? ⟨w.heap.size + 1, p0, none⟩ = W.cell? ⟨w.heap.size + 1, p0, none⟩ from fun W v => World.cell?_setCell_other _ _ _ _ (ne p0 (by omega)))
        have K1 := Lib.hid (show ∀ (W : World) (v : Value), (W.setCell ⟨w.heap.size + 1, k, none⟩ v).cell? ⟨w.heap.size + 1, p1, none⟩ = W.cell? ⟨w.heap.size + 1, p1, none⟩ from fun W v => World.cell?_setCell_other _ _ _ _ (ne p1 (by omega)))
        have K2 := Lib.hid (show ∀ (W : World) (v : Value), (W.setCell ⟨w.heap.size + 1, k, none⟩ v).cell? ⟨w.heap.size + 1, p2, none⟩ = W.cell? ⟨w.heap.size + 1, p2, none⟩ from fun W v => World.cell?_setCell_other _ _ _ _ (ne p2 (by omega)))
        have K3 := Lib.hid (show ∀ (W : World) (v : Value), (W.setCell ⟨w.heap.size + 1, k, none⟩ v).cell? ⟨w.heap.size + 1, p3, none⟩ = W.cell? ⟨w.heap.size + 1, p3, none⟩ from fun W v => World.cell?_setCell_other _ _ _ _ (ne p3 (by omega)))
        have C1 := Lib.hid (fun W => show Calls Try.prog 42 #[.int .u32 (x1.toNat : Int), .int .i64 7, .int .i64 18, .int .i64 3] W _ from shifted_any x1 7 18 3 (by decide) (by decide) (by decide) W)
        have C2 := Lib.hid (fun W => show Calls Try.prog 42 #[.int .u32 (x3.toNat : Int), .int .i64 17, .int .i64 19, .int .i64 10] W _ from shifted_any x3 17 19 10 (by decide) (by decide) (by decide) W)
        have a0 : IntKind.i64.wrap ((k : Int) - 16) = (p0 : Int) := by rw [IntWalk.i64_in _ (by omega)]; omega
        have a1 : IntKind.i64.wrap ((k : Int) - 15) = (p1 : Int) := by rw [IntWalk.i64_in _ (by omega)]; omega
        have a2 : IntKind.i64.wrap ((k : Int) - 7) = (p2 : Int) := by rw [IntWalk.i64_in _ (by omega)]; omega
        have a3 : IntKind.i64.wrap ((k : Int) - 2) = (p3 : Int) := by rw [IntWalk.i64_in _ (by omega)]; omega
        have l0 : (p0 : Int) < 64 := by omega
        have l1 : (p1 : Int) < 64 := by omega
        have l2 : (p2 : Int) < 64 := by omega
        have l3 : (p3 : Int) < 64 := by omega
        have m0 : (0 : Int) ≤ (p0 : Int) := by omega
        have m1 : (0 : Int) ≤ (p1 : Int) := by omega
        have m2 : (0 : Int) ≤ (p2 : Int) := by omega
        have m3 : (0 : Int) ≤ (p3 : Int) := by omega
        have mk : (0 : Int) ≤ (k : Int) := by omega
        clear hx0 hx1 hx2 hx3 hw hrw hp0 hp1 hp2 hp3 ne
        go_wp2_with fail
        go_region_held3 (fun W => W.cell? ⟨w.heap.size + 1, p0, none⟩ = some (.int .u32 (x0.toNat : Int)) ∧ W.cell? ⟨w.heap.size + 1, p1, none⟩ = some (.int .u32 (x1.toNat : Int)) ∧ W.cell? ⟨w.heap.size + 1, p2, none⟩ = some (.int .u32 (x2.toNat : Int)) ∧ W.cell? ⟨w.heap.size + 1, p3, none⟩ = some (.int .u32 (x3.toNat : Int)))
          (first
            | exact ⟨c0, c1, c2, c3⟩
            | exact ⟨(K0.out _ _).trans c0, (K1.out _ _).trans c1, (K2.out _ _).trans c2, (K3.out _ _).trans c3⟩
            | fail)
          (first
            | (go_at_call 42; with_reducible refine (C1.out _).mono ?_; rintro e w1 ⟨rfl, m1, rfl⟩)
            | (go_at_call 42; with_reducible refine (C2.out _).mono ?_; rintro e w2 ⟨rfl, m2, rfl⟩)
            | fail)
        go_wp2_with fail
        go_roundw
        case rel =>
          refine ⟨k + 1, by omega, by go_num, WRow.push (w := wr.drewN _) hrow.out ?_, ?_, ?_⟩
          · rw [HW.out]
            congr 1
          · exact (heap_setCell_other _ _ _ _ (by simp)).trans hres.out
          · exact Below.setCell (hbel.out.trans (below_dN _ _ _)) (by simp) _
        case measure => simp [intOf]; omega
    · obtain rfl : k = 64 := by omega
      have hs : (wc (wL b 64)).toArray.size = 64 := by rw [List.size_toArray, wc_length, wL_length]
      have h1 := wc_one (wL b 64)
      have hg := rowIs_cells (wL_length b 64) hrow.out
      obtain ⟨K, hK⟩ : ∃ K, K = (wc (wL b 64)).toArray := ⟨_, rfl⟩
      rw [← hK] at hs h1 hg
      have HS := Lib.hid hs
      have HK := Lib.hid hK
      have H1 := Lib.hid h1
      have HG := Lib.hid hg
      clear hs hK h1 hg
      go_wp2_with (first
        | (refine wpList_load_row rfl 56 (.tmp 3) rfl (w.heap.size + 1) rfl 56 K (0, 0) _ HG.out Try.underlying56 rfl (by rw [HS.out]; exact info64) ?_)
        | (refine wpList_store_row rfl 56 (.tmp 2) (.tmp 45) rfl w.heap.size K rfl rfl 56 _ hres.out (by rw [HS.out]; exact info64) (by rw [HS.out, Array.size_replicate]) H1.out ?_)
        | fail)
      refine bodyPost_ret (v := .agg K) (results_cell_row (p := 2) (ty := 56) rfl _ _ w.heap.size 56 K (0, 0) _ rfl (setRow_heap wr w.heap.size _ K _ _ hres.out) Try.underlying56 rfl (by rw [HS.out]; exact info64)) rfl ?_
      exact ⟨by rw [HK.out], below_setRow hbel.out (Nat.le_refl _) _⟩
end Go.Proofs.Ytllodapnbdbpeaa
