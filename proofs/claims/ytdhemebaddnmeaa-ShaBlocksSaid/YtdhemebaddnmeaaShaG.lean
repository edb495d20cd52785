/- What Block, and a digest's bytes, of layer 7 return. -/
import Derived.Test.YtdhemebaddnmeaaShaD
import Derived.Test.YtdhemebaddnmeaaShaF
namespace Go.Proofs.Ytdhemebaddnmeaa
open Go.RowKit

set_option maxRecDepth 100000 in
set_option maxHeartbeats 2000000 in
theorem cblock_any (s : St) (A1 A : Option Addr) (n1 c B1 B : Nat) (b : List UInt8) (w : World) (hs : Rw w B1 A1 8 s.list) (hr : Rd w B A 64 b) (hB1 : B1 ≤ w.heap.size) (hB : B ≤ w.heap.size) (hc : 64 ≤ c) (hc2 : c ≤ 9223372036854775807) :
    Calls Try.prog 9 #[.slice A1 8 n1, .slice A 64 c] w fun e w' => ∃ g, e = .returned (.slice (some ⟨g, 0, none⟩) 8 8) ∧ w'.rowIs g 40 8 (fun j => .int .u32 (((nxt s b).list.getD j 0).toNat : Int)) ∧ w.heap.size ≤ g ∧ Below w.heap.size w w' := by
  have HR := Lib.hid hr
  have HB := Lib.hid hB
  have HS := Lib.hid hs
  have HB1 := Lib.hid hB1
  have C1 := Lib.hid (fun W (h : Rd W B A 64 b) (hb : B ≤ W.heap.size) => next_any s A c B b W h hb hc hc2)
  obtain ⟨K, hK⟩ : ∃ K, K = (wc s.list).toArray := ⟨_, rfl⟩
  obtain ⟨K2, hK2⟩ : ∃ K, K = (wc (nxt s b).list).toArray := ⟨_, rfl⟩
  have SK : Hid (K.size = 8) := by show _ = _; rw [hK]; rfl
  have SK2 : Hid (K2.size = 8) := by show _ = _; rw [hK2, List.size_toArray, wc_length]; rfl
  have OK2 : Hid (K2.all (·.oneCell') = true) := by show _ = _; rw [hK2]; exact wc_one _
  have HK := Lib.hid hK
  have HK2 := Lib.hid hK2
  have c1 := C1.out
  rw [← hK, ← hK2] at c1
  have C2 := Lib.hid c1
  have hcp : ∃ ad, A1 = some ad ∧ ∀ (j : Nat) (v : Value), (wc s.list)[j]? = some v → (w.alloc (.cells (Array.replicate 8 (.int .u32 0)) 40)).cell? (ad.add j) = some v := by
    obtain ⟨b1, o1, e1, hb1, hc1⟩ := HS.out.2 (by decide)
    refine ⟨_, e1, fun j v hj => ?_⟩
    have hj8 : j < 8 := by
      rcases Nat.lt_or_ge j 8 with h | h
      · exact h
      · rw [List.getElem?_eq_none (by rw [wc_length]; exact h)] at hj; cases hj
    have e2 : (⟨b1, o1, none⟩ : Addr).add j = ⟨b1, o1 + j, none⟩ := by unfold Addr.add; split <;> simp_all
    rw [e2, World.cell?_alloc_lt _ _ _ (Nat.lt_of_lt_of_le hb1 HB1.out), hc1 j hj8]
    have := wc_get s.list j hj8
    rw [List.getElem?_toArray] at this
    rw [← hj, this]
  have HCP := Lib.hid hcp
  have HSP := Lib.hid (fun (W : World) (h : W.heap[w.heap.size]? = some (.cells (splice (List.replicate 8 (.int .u32 0)) 0 (wc s.list)).toArray 40 (0, 0))) => (show W.heap[w.heap.size]? = some (.cells K 40 (0, 0)) by
    rw [h, hK]; rfl))
  clear hr hB hs hB1 c1 hK hK2 C1 hcp
  go_enter Try.func9, Try.ntmps9
  go_wp2_with (first
    | (refine wpList_allocN rfl 40 rfl _ zero8v w.heap.size rfl ?_)
    | (refine wpList_copy_splice rfl (.tmp 14) (.tmp 15) 24 24 rfl 31 Try.underlying24 info_u32 (some ⟨w.heap.size, 0, none⟩) A1 8 8 8 n1 rfl rfl w.heap.size 0 (List.replicate 8 (.int .u32 0)) 40 (heap_alloc_new w _) (wc s.list) rfl (fun _ => ⟨rfl, HCP.out⟩) (Nat.le_refl 8) (by intro v hv; obtain ⟨x, _, rfl⟩ := List.mem_map.1 hv; rfl) w.heap.size w ((Below.refl _ _).alloc (Nat.le_refl _) _) (Nat.le_refl _) ?_; intro w2 hw2 hb2; have B2 := Lib.hid hb2; have G2 := Lib.hid (HSP.out _ hw2.out); clear hb2 hw2)
    | (refine wpList_load_row rfl 40 (.tmp 5) rfl w.heap.size rfl 40 K (0, 0) _ G2.out Try.underlying40 rfl (by rw [SK.out]; exact info8) ?_)
    | fail)
  refine (C2.out _ (HR.out.below (B2.out.mono HB.out)) (Nat.le_trans HB.out B2.out.size)).mono ?_
  rintro e w3 ⟨rfl, hb3⟩
  have g3 : w3.heap[w.heap.size]? = some (.cells K 40 (0, 0)) := by
    rw [hb3.block _ (World.rowIs.lt (rowIs_of HK.out rfl G2.out)), G2.out]
  have b3 : Below w.heap.size w w3 := B2.out.trans (hb3.mono B2.out.size)
  have G3 := Lib.hid g3
  have B3 := Lib.hid b3
  clear hb3 g3 b3
  go_wp2_with (first
    | (refine wpList_stRow rfl 40 (.tmp 5) (.tmp 19) rfl w.heap.size K2 rfl rfl 40 _ G3.out (by rw [SK2.out]; exact info8) (by rw [SK.out, SK2.out]) OK2.out ?_; intro w4 r4 o4 b4 z4; have R4 := Lib.hid r4; have B4 := Lib.hid (b4 _ _ B3.out (Nat.le_refl _)); clear r4 o4 b4 z4)
    | fail)
  go_ret
  exact ⟨_, rfl, rowIs_of HK2.out rfl R4.out, Nat.le_refl _, B4.out⟩

/-- Of others nothing. -/
theorem cblock_no (A1 A : Option Addr) (m n1 n c : Nat) (w : World) (h : ¬ (m = 8 ∧ n = 64)) (_hm : m ≤ 9223372036854775807) (_hn : n ≤ 9223372036854775807) :
    Calls Try.prog 9 #[.slice A1 m n1, .slice A n c] w fun e w' => e = .returned (.slice none 0 0) ∧ w = w' := by
  by_cases h8 : m = 8
  · have e1 : ((m : Int) != 8) = false := by simp; omega
    have e2 : ((n : Int) != 64) = true := by simp; omega
    clear h h8
    go_enter Try.func9, Try.ntmps9
    go_wp2
    go_ret
    exact ⟨rfl, rfl⟩
  · have e1 : ((m : Int) != 8) = true := by simp; omega
    clear h h8
    go_enter Try.func9, Try.ntmps9
    go_wp2
    go_ret
    exact ⟨rfl, rfl⟩
end Go.Proofs.Ytdhemebaddnmeaa
