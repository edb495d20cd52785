/- DiskNobody. -/
import Derived.Test.YtchcimckffonjaaDscI
namespace Go.Proofs.Ytchcimckffonjaa
open Go.RowKit

set_option maxRecDepth 100000 in
set_option maxHeartbeats 4000000 in
theorem diskNobody_walk (at_ : Int) (w : World) (_ : (Lit.int .i64 at_).wf = true) :
    Calls Try.prog 7 #[.int .i64 at_] w fun e w' => e = .returned (.bool true) ∧ Below w.heap.size w w' := by
  obtain ⟨wa, hwa⟩ : ∃ wa, wa = w.alloc (.cells #[.slice none 0 0, .slice none 0 0, .bool false, .int .i64 0] 55) := ⟨_, rfl⟩
  obtain ⟨wb, hwb⟩ : ∃ wb, wb = wa.alloc (.cells #[.pointer none, .pointer (some ⟨w.heap.size, 0, none⟩)] 24) := ⟨_, rfl⟩
  have zA : wa.heap.size = w.heap.size + 1 := by rw [hwa]; simp
  have XA : wa.heap[w.heap.size]? = some (.cells #[.slice none 0 0, .slice none 0 0, .bool false, .int .i64 0] 55 (0, 0)) := by rw [hwa]; exact heap_alloc_new w _
  have XB : wb.heap[wa.heap.size]? = some (.cells #[.pointer none, .pointer (some ⟨w.heap.size, 0, none⟩)] 24 (0, 0)) := by rw [hwb]; exact heap_alloc_new wa _
  have XA' : wb.heap[w.heap.size]? = some (.cells #[.slice none 0 0, .slice none 0 0, .bool false, .int .i64 0] 55 (0, 0)) := by rw [hwb, Below.heap_alloc _ _ _ (by omega)]; exact XA
  have BB : Hid (Below w.heap.size w wb) := by show Below _ _ _; rw [hwb, hwa]; exact ((Below.refl _ _).alloc (Nat.le_refl _) _).alloc (by simp) _
  rw [zA] at XB
  have HX := Lib.hid (And.intro XA' XB)
  have HWB := Lib.hid (hwa ▸ hwb)
  clear XA XA' XB zA hwb hwa
  go_enter Try.func7, Try.ntmps7
  go_wp2_with fail
  rw [← HWB.out]
  go_loopw [5] (fun k wr => ∃ i : Nat, i ≤ 2 ∧ k = .int .i64 i ∧ Hid (Below wb.heap.size wb wr)) (fun k _ => 2 - (intOf k).toNat)
  case atStart => exact ⟨0, by decide, rfl, Below.refl _ _⟩
  case round =>
    obtain ⟨i, hi, rfl, HR⟩ := hrel
    by_cases hlt : i < 2
    case neg =>
      obtain rfl : i = 2 := by omega
      go_wp2_with fail
      refine (heads13_any wr).mono ?_
      rintro e w2 ⟨rfl, hb⟩
      have H2 := Lib.hid hb
      clear hb
      go_wp2_with fail
      go_ret
      exact ⟨rfl, (BB.out.trans (HR.out.mono BB.out.size)).trans (H2.out.mono (Nat.le_trans BB.out.size HR.out.size))⟩
    have key : ∀ W, Below wb.heap.size wb W → ∃ p, W.cell? ⟨w.heap.size + 1, i, none⟩ = some (.pointer p) ∧ Nob W p := by
      intro W hW
      have z1 : w.heap.size + 1 < wb.heap.size := (Array.getElem?_eq_some_iff.1 HX.out.2).1
      have r1 := (hW.block _ z1).trans HX.out.2
      have r0 := (hW.block w.heap.size (by omega)).trans HX.out.1
      have hi2 : i = 0 ∨ i = 1 := by omega
      rcases hi2 with rfl | rfl
      · exact ⟨none, by simp [World.cell?, r1], .inl rfl⟩
      · exact ⟨some ⟨w.heap.size, 0, none⟩, by simp [World.cell?, r1], .inr ⟨_, rfl, by simp [World.cell?, r0]⟩⟩
    obtain ⟨p, c0, hp⟩ := key wr HR.out
    have HP := Lib.hid hp
    have KEY := Lib.hid key
    have tn : (i : Int) < 2 := by omega
    have i0 : (0 : Int) ≤ (i : Int) := by omega
    have HLT := Lib.hid hlt
    clear hp key
    go_wp2_with fail
    refine (nread_any at_ wr HP.out).mono ?_
    rintro e w1 ⟨rfl, rfl⟩
    go_wp2_with fail
    refine (nwrite_any at_ _ wr HP.out).mono ?_
    rintro e w1 ⟨rfl, rfl⟩
    go_wp2_with fail
    refine (nflush_any wr HP.out).mono ?_
    rintro e w1 ⟨rfl, rfl⟩
    go_wp2_with fail
    refine (nalive_any wr HP.out).mono ?_
    rintro e w1 ⟨rfl, rfl⟩
    go_wp2_with fail
    refine (nwaiting_any wr HP.out).mono ?_
    rintro e w1 ⟨rfl, rfl⟩
    go_wp2_with fail
    refine (nsectors_any wr HP.out).mono ?_
    rintro e w1 ⟨rfl, rfl⟩
    go_wp2_with fail
    refine (narm_any at_ wr HP.out).mono ?_
    rintro e w1 ⟨rfl, rfl⟩
    go_wp2_with fail
    refine (ncrash_any none 0 0 wr HP.out).mono ?_
    rintro e w2 ⟨rfl, hb2⟩
    have B2 : Hid (Below wb.heap.size wb w2) := HR.out.trans (hb2.mono HR.out.size)
    clear hb2 c0 HP
    obtain ⟨p, c0, hp⟩ := KEY.out w2 B2.out
    have HP := Lib.hid hp
    clear hp
    go_wp2_with fail
    refine (nstart_any w2 HP.out).mono ?_
    rintro e w1 ⟨rfl, rfl⟩
    go_wp2_with fail
    refine (nalive_any w2 HP.out).mono ?_
    rintro e w1 ⟨rfl, rfl⟩
    go_wp2_with fail
    go_roundw
    case rel => exact ⟨i + 1, by have := HLT.out; omega, by simp, B2⟩
    case measure => simp [intOf]; have := HLT.out; omega
end Go.Proofs.Ytchcimckffonjaa
