/- What Key, masked, Chain of layer 8 return. -/
import Derived.Test.YtllodapnbdbpeaaShaL
import Derived.Test.YtllodapnbdbpeaaHmM
import Derived.Laws.CopyOwn
namespace Go.Proofs.Ytllodapnbdbpeaa
open Go.RowKit

theorem xor8 (x y : UInt8) : Value.int .u8 (bits BinOp.xor .u8 (x.toNat : Int) (y.toNat : Int)) = .int .u8 ((x ^^^ y).toNat : Int) := by
  rw [u8_xor_nat _ _ x.toNat_lt y.toNat_lt, UInt8.toNat_xor]
theorem xorL_step (l : List UInt8) (y : UInt8) (k : Nat) (h : k < l.length) : xorL (l.take (k + 1)) y = xorL (l.take k) y ++ [l.getD k 0 ^^^ y] := by
  rw [take_more l k h]
  simp [xorL]

/-- What a read slice holds, as copy wants it. -/
theorem Rd.src {w : World} {B n : Nat} {A : Option Addr} {l : List UInt8} (h : Rd w B A n l) (h0 : 0 < n) : ∃ ad, A = some ad ∧ ∀ j u, (l.map bv)[j]? = some u → w.cell? (ad.add j) = some u := by
  obtain ⟨b, o, rfl, _, hc⟩ := h.2 h0
  refine ⟨_, rfl, fun j u hu => ?_⟩
  have hj : j < l.length := by
    rcases Nat.lt_or_ge j l.length with h1 | h1
    · exact h1
    · rw [List.getElem?_eq_none (by simpa using h1)] at hu; cases hu
  have hh := hc j (by rw [← h.1]; exact hj)
  have ea : (⟨b, o, none⟩ : Addr).add j = ⟨b, o + j, none⟩ := by unfold Addr.add; split <;> simp_all
  rw [ea, hh, ← hu]
  simp [List.getD, hj, bv]
/-- An own slice without room behind it, and its row. -/
theorem ob_whole {w : World} {base g n : Nat} {t : TypeId} {l : List UInt8} (h : Ob w base t (.slice (some ⟨g, 0, none⟩) n n) l) (hn : l.length = n) : w.heap[g]? = some (.cells (l.map bv).toArray t (0, 0)) := by
  rcases h.2 with ⟨e, _⟩ | ⟨g', cap, cur, e, hb, hg, hnc, hm, hs, ht⟩
  · cases e
  · simp only [Value.slice.injEq, Option.some.injEq, Addr.mk.injEq] at e
    obtain ⟨⟨rfl, _, _⟩, e2, rfl⟩ := e
    rw [hg]
    have : cur = (l.map bv).toArray := by
      rw [← ht, List.take_of_length_le (by simp [hs, hn])]
    rw [this]
theorem ob_of_whole {w : World} {base g n : Nat} {t : TypeId} {l : List UInt8} (hg : w.heap[g]? = some (.cells (l.map bv).toArray t (0, 0))) (hb : base ≤ g) (hn : l.length = n) (hm : n ≤ maxLen) : Ob w base t (.slice (some ⟨g, 0, none⟩) n n) l := by
  subst hn
  exact ⟨by simp, .inr ⟨g, l.length, _, rfl, hb, hg, Nat.le_refl _, hm, by simp, List.take_of_length_le (by simp)⟩⟩
theorem splice_key (k b : List UInt8) (hb : b = keyB k) : splice ((List.replicate 64 (0 : UInt8)).map bv) 0 (b.map bv) = (keyL k).map bv := by
  subst hb
  obtain ⟨M, hM⟩ : ∃ M, M = 64 := ⟨_, rfl⟩
  unfold splice keyL
  rw [List.map_append, ← hM]
  simp

set_option maxRecDepth 100000 in
set_option maxHeartbeats 1000000 in
theorem ckey_any (A : Option Addr) (n c B : Nat) (k : List UInt8) (w : World) (h : Rd w B A n k) (hB : B ≤ w.heap.size) (hnc : n ≤ c) (hc : c ≤ 9223372036854775807) (hn : n ≤ 274877906944) :
    Calls Try.prog 14 #[.slice A n c] w (GivesO 5 (keyL k) w) := by
  have HKL := Lib.hid h.1
  have HR := Lib.hid (h.more hB)
  have SP := Lib.hid (splice_key k)
  have L64 := Lib.hid (show ((List.replicate 64 (0 : UInt8)).map bv).length = 64 by simp)
  have LR := Lib.hid (show (List.replicate 64 (0 : UInt8)).length = 64 by simp)
  have KLL := Lib.hid (keyL_length k)
  clear h hB
  by_cases hlong : 64 < n
  · have e1 : (64 : Int) < (n : Int) := by omega
    have KB := Lib.hid (show shaL k = keyB k by unfold keyB; rw [if_pos (by rw [HKL.out]; exact hlong)])
    go_enter Try.func14, Try.ntmps14
    go_wp2_with fail
    refine (sum1_any A n c k w HR.out hnc hc (by rw [HKL.out]; omega)).mono ?_
    rintro e w2 ⟨v2, rfl, ho2, hb2⟩
    obtain ⟨D2, d2, rfl, hd2, hm2, hr2⟩ := Ob.rd_n ho2 (shaL_size k)
    have R2 := Lib.hid hr2
    have B2 := Lib.hid (((Below.refl w.heap.size w).alloc (Nat.le_refl _) (.cells #[.slice A n c] 22)).trans (hb2.mono (le_alloc _ _)))
    clear ho2 hb2 hr2
    go_wp2_with (first
      | (refine wpList_makeB rfl _ _ 22 rfl 5 Try.underlying22 info_u8 64 64 64 64 rfl rfl rfl rfl (Nat.le_refl _) (by decide) ?_; intro w3 ho3 hb3; have G3 := Lib.hid (ob_whole ho3 LR.out); have B3 := Lib.hid (B2.out.trans (hb3.mono B2.out.size)); have S3 := Lib.hid ((R2.out.below hb3).src (by decide)); clear ho3 hb3)
      | (refine wpList_copy_splice rfl (.tmp 11) (.tmp 12) 22 22 rfl 5 Try.underlying22 (by kernel_rfl) (some ⟨w2.heap.size, 0, none⟩) D2 64 64 32 d2 rfl rfl w2.heap.size 0 ((List.replicate 64 (0 : UInt8)).map bv) 5 G3.out ((shaL k).map bv) (by rw [List.length_map, shaL_size]; rfl) (fun _ => ⟨rfl, S3.out⟩) (by rw [List.length_map, shaL_size, L64.out]; decide) (bv_one _) w.heap.size w B3.out B2.out.size ?_; intro w4 hw4 hb4; have B4 := Lib.hid hb4; have G4 := Lib.hid hw4.out; clear hb4 hw4)
      | fail)
    go_ret
    have g4 := G4.out
    rw [SP.out _ KB.out] at g4
    exact ⟨_, rfl, ob_of_whole g4 B2.out.size KLL.out (by decide), B4.out⟩
  · have e1 : ¬ (64 : Int) < (n : Int) := by omega
    have KB := Lib.hid (show k = keyB k by unfold keyB; rw [if_neg (by rw [HKL.out]; exact hlong)])
    have MIN := Lib.hid (show (k.map bv).length = Nat.min n 64 by rw [List.length_map, HKL.out]; exact (Nat.min_eq_left (by omega)).symm)
    have FIT := Lib.hid (show 0 + (k.map bv).length ≤ ((List.replicate 64 (0 : UInt8)).map bv).length by rw [L64.out, List.length_map, HKL.out]; omega)
    have POS := Lib.hid (show 0 < (k.map bv).length → 0 < n by rw [List.length_map, HKL.out]; exact id)
    go_enter Try.func14, Try.ntmps14
    go_wp2_with (first
      | (refine wpList_makeB rfl _ _ 22 rfl 5 Try.underlying22 info_u8 64 64 64 64 rfl rfl rfl rfl (Nat.le_refl _) (by decide) ?_; intro w1 ho1 hb1; have G1 := Lib.hid (ob_whole ho1 LR.out); have B1 := Lib.hid hb1; have R1 := Lib.hid (HR.out.below hb1); clear ho1 hb1)
      | (refine wpList_copy_splice rfl (.tmp 11) (.tmp 12) 22 22 rfl 5 Try.underlying22 (by kernel_rfl) (some ⟨w.heap.size, 0, none⟩) A 64 64 n c rfl rfl w.heap.size 0 ((List.replicate 64 (0 : UInt8)).map bv) 5 G1.out (k.map bv) MIN.out (fun hp => ⟨rfl, R1.out.src (POS.out hp)⟩) FIT.out (bv_one _) w.heap.size w B1.out (Nat.le_refl _) ?_; intro w4 hw4 hb4; have B4 := Lib.hid hb4; have G4 := Lib.hid hw4.out; clear hb4 hw4)
      | fail)
    go_ret
    have g4 := G4.out
    rw [SP.out _ KB.out] at g4
    exact ⟨_, rfl, ob_of_whole g4 (Nat.le_refl _) KLL.out (by decide), B4.out⟩

set_option maxRecDepth 100000 in
set_option maxHeartbeats 1000000 in
theorem cchain_any (A A' : Option Addr) (n c n' c' : Nat) (k t : List UInt8) (w : World) (h : Rd w w.heap.size A n k) (hnc : n ≤ c) (hc : c ≤ 9223372036854775807) (h' : Rd w w.heap.size A' n' t) (hnc' : n' ≤ c') (hc' : c' ≤ 9223372036854775807) (hn : n ≤ 137438953472) (hn' : n' ≤ 137438953472) :
    Calls Try.prog 12 #[.slice A n c, .slice A' n' c'] w (GivesO 5 (shaL (k ++ t)) w) := by
  have C1 := Lib.hid (sum2_any A A' n c n' c' k t w h hnc hc h' hnc' hc' (by rw [List.length_append, h.1, h'.1]; omega))
  clear h h'
  go_enter Try.func12, Try.ntmps12
  go_wp2_with fail
  refine C1.out.mono ?_
  rintro e w1 ⟨v1, rfl, ho1, hb1⟩
  have O1 := Lib.hid (ho1.low (le_alloc w _))
  have B1 := Lib.hid (((Below.refl _ w).alloc (Nat.le_refl _) _).trans (hb1.mono (le_alloc w _)))
  clear ho1 hb1
  go_wp2_with fail
  go_ret
  exact ⟨_, rfl, O1.out, B1.out⟩
end Go.Proofs.Ytllodapnbdbpeaa
