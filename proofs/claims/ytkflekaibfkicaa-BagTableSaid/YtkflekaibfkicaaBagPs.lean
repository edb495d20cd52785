/- Put into tables that are empty yet, and Put, from ByteArray to Int. (Made by gen/bagt.py.) -/
import Derived.Test.YtkflekaibfkicaaBagOs
import Derived.WalkSpells
import Derived.Deep.RegionHeld3
namespace Go.Proofs.Ytkflekaibfkicaa
open Go.RowKit Go.Maps

set_option maxRecDepth 100000 in
set_option maxHeartbeats 4000000 in
theorem sput_nil (w : World) {B g N : Nat} {T : ByteArray → Option Int} (k : ByteArray) (v : Int) (hw : k.size ≤ maxLen) (hN : N < 100000) (hB : B ≤ g) (hc : w.cell? ⟨g, 0, none⟩ = some (.map none)) (hf : w.frozen? ⟨g, 0, none⟩ = false) (hT : T = fun _ => none) (hsz : B ≤ w.heap.size) :
    Calls Try.prog 21 #[.pointer (some ⟨g, 0, none⟩), .string k, .int .i64 v] w fun e w' => e = .returned (.bool (T k).isSome) ∧ sTSt B w' g (N + 1) (putT T k v) ∧ Kp false B g w w' := by
  have hg : g < w.heap.size := World.block_lt_of_cell? w ⟨g, 0, none⟩ hc
  have hca : (w.alloc (.map #[] 0)).cell? ⟨g, 0, none⟩ = some (.map none) := ((Below.refl w.heap.size w).alloc (Nat.le_refl _) _).cell hg |>.trans hc
  have hfa : (w.alloc (.map #[] 0)).frozen? ⟨g, 0, none⟩ = false := (World.frozen?_of_block (w := w) (((Below.refl w.heap.size w).alloc (Nat.le_refl _) (.map #[] 0)).block g hg)).trans hf
  have HD : Hid (((w.alloc (.map #[] 0)).setCell ⟨g, 0, none⟩ (.map (some w.heap.size))).ownsMap Try.prog 80 srd w.heap.size N (.map []) ∧ DatIs Try.prog 80 smk senc (.map []) T ∧ N < 100000) := ⟨((World.ownsMap_made w Try.prog 80 srd).mono (Nat.zero_le N)).setCell (by show w.heap.size ≠ g; omega) _, by rw [hT]; exact DatIs.empty, hN⟩
  have HKQ : Hid (Kp false B g w ((w.alloc (.map #[] 0)).setCell ⟨g, 0, none⟩ (.map (some w.heap.size)))) := (Kp.alloc hsz _).trans (Kp.setCell hB _ _ hca)
  have HM : Hid (sMp B ((w.alloc (.map #[] 0)).setCell ⟨g, 0, none⟩ (.map (some w.heap.size))) (.map (some w.heap.size)) N T) := .inr ⟨w.heap.size, _, rfl, hsz, HD.out.1, HD.out.2.1⟩
  have CP := Lib.hid (splace k ((w.alloc (.map #[] 0)).setCell ⟨g, 0, none⟩ (.map (some w.heap.size))))
  have HW := Lib.hid hw
  have HG : Hid (((w.alloc (.map #[] 0)).setCell ⟨g, 0, none⟩ (.map (some w.heap.size))).cell? ⟨g, 0, none⟩ = some (.map (some w.heap.size)) ∧ ((w.alloc (.map #[] 0)).setCell ⟨g, 0, none⟩ (.map (some w.heap.size))).frozen? ⟨g, 0, none⟩ = false ∧ g < ((w.alloc (.map #[] 0)).setCell ⟨g, 0, none⟩ (.map (some w.heap.size))).heap.size ∧ B ≤ g ∧ B ≤ w.heap.size ∧ B ≤ ((w.alloc (.map #[] 0)).setCell ⟨g, 0, none⟩ (.map (some w.heap.size))).heap.size) := ⟨World.cell?_setCell_same _ _ _ hca, by rw [World.frozen?_setCell]; exact hfa, by simp [World.setCell]; omega, hB, hsz, by simp [World.setCell]; omega⟩
  clear hT hN hB hsz hw hg
  have hmm := @run_makeMap Try.prog
  have hem : ∀ W, (binOp .eql 48 (.map none) (.map none)).run Try.prog W = .ok (.bool true) W := fun W => run_eql_map_nil (P := Try.prog) W 48 80 83 none Try.underlying48
  go_enter Try.func21, Try.ntmps21
  go_wp2_with (first
    | (go_at_call 33; generalize hwq : (w.alloc (.map #[] 0)).setCell ⟨g, 0, none⟩ (.map (some w.heap.size)) = wq at *; have hc := HG.out.1; have hg := HG.out.2.2.1; refine CP.out.mono ?_; rintro e w1 ⟨rfl, hb1⟩; have hc1 := (hb1.cell hg).trans hc; have HB1 := Lib.hid hb1; clear hb1)
    | fail)
  generalize hw2 : w1.alloc (.cells #[.string k, .bool false] 80) = w2
  obtain ⟨k', v', he, -⟩ := sat_form T k
  obtain ⟨hs, hhs⟩ : ∃ hs, hs = (T k).isSome := ⟨_, rfl⟩
  have hB2 : Below w1.heap.size w1 w2 := by rw [← hw2]; exact (Below.refl _ _).alloc (Nat.le_refl _) _
  have hz2 : w2.heap.size = w1.heap.size + 1 := by rw [← hw2]; simp
  have KF : Hid (∀ W, Below w2.heap.size w2 W → W.cell? ⟨g, 0, none⟩ = some (.map (some w.heap.size)) ∧ W.cell? ⟨w1.heap.size, 0, none⟩ = some (.string k) ∧ W.cell? ⟨w1.heap.size, 1, none⟩ = some (.bool false) ∧ (Instr.lookup 48 (.map (some w.heap.size)) (.agg #[.string k, .bool false]) true).run Try.prog W = .ok (.tuple #[.agg #[.string k', .int .i64 v'], .bool hs]) W) := fun W hW => by
    have hW1 : Below wq.heap.size wq W := HB1.out.trans ((hB2.mono HB1.out.size).trans (hW.mono (by have := HB1.out.size; omega)))
    have hl := HM.out.look k HW.out hW1
    rw [he, ← hhs] at hl
    exact ⟨(hW1.cell hg).trans hc, (hW.cell (p := ⟨w1.heap.size, 0, none⟩) (by show w1.heap.size < _; omega)).trans (by rw [← hw2, World.cell?_alloc_at _ _ _ _ rfl]; rfl), (hW.cell (p := ⟨w1.heap.size, 1, none⟩) (by show w1.heap.size < _; omega)).trans (by rw [← hw2, World.cell?_alloc_at _ _ _ _ rfl]; rfl), hl⟩
  have HZ2 := Lib.hid (And.intro hB2 hz2)
  have HHS := Lib.hid hhs
  clear hw2 hc1 hc hhs he hB2 hz2
  go_region_held3 (fun W => W.cell? ⟨g, 0, none⟩ = some (.map (some w.heap.size)) ∧ W.cell? ⟨w1.heap.size, 0, none⟩ = some (.string k) ∧ W.cell? ⟨w1.heap.size, 1, none⟩ = some (.bool false) ∧ (Instr.lookup 48 (.map (some w.heap.size)) (.agg #[.string k, .bool false]) true).run Try.prog W = .ok (.tuple #[.agg #[.string k', .int .i64 v'], .bool hs]) W)
    (first | (exact KF.out _ (Below.refl _ _).drew) | (exact KF.out _ ((Below.refl _ _).drew.alloc (Nat.le_refl _) _)) | fail)
    (fail)
  all_goals
    have hb4 : Below w2.heap.size w2 (w2.alloc (.cells #[.string k', .int .i64 v'] 83)).drew := ((Below.refl _ _).alloc (Nat.le_refl _) _).drew
    generalize (w2.alloc (.cells #[.string k', .int .i64 v'] 83)).drew = w4 at hb4 ⊢
    go_wp2_with fail
    have hW4 : Below wq.heap.size wq w4.drew := HB1.out.trans ((HZ2.out.1.mono HB1.out.size).trans ((hb4.drew).mono (by have := HB1.out.size; have := HZ2.out.2; omega)))
    obtain ⟨kl, hkl⟩ := skey k HW.out
    have ho4 : w4.drew.ownsMap Try.prog 80 srd w.heap.size N (.map []) := by
      obtain ⟨es, clock, hbk, hr⟩ := HD.out.1
      exact ⟨es, clock, by rw [hW4.block w.heap.size (Array.getElem?_eq_some_iff.1 hbk).1]; exact hbk, hr⟩
    obtain ⟨w8, hrun, ho8, ht8⟩ := ho4.store slaw Try.underlying48 (by unfold maxLen; have := HD.out.2.2; omega) hkl (srd_mk k v)
    have hrun' : (Instr.mapUpdate 48 (.map (some w.heap.size)) (.agg #[.string k, .bool false]) (.agg #[.string k, .int .i64 v])).run Try.prog w4.drew = .ok () w8 := hrun
    have hk8 : Kp false B g w4.drew w8 := Kp.turned HG.out.2.2.2.2.1 ht8
    have hk0 : Kp false B g wq w8 := (Kp.of_below HG.out.2.2.2.2.2 hW4).trans hk8
    have hkg : Kp false B (g + 1) w4.drew w8 := Kp.turned HG.out.2.2.2.2.1 ht8
    obtain ⟨s1, s2, s3, -⟩ := KF.out _ hb4.drew
    have S1 := Lib.hid (show w4.drew.cell? ⟨g, 0, none⟩ = some (.map (some w.heap.size)) ∧ w4.drew.cell? ⟨w1.heap.size, 0, none⟩ = some (.string k) ∧ w4.drew.cell? ⟨w1.heap.size, 1, none⟩ = some (.bool false) from ⟨s1, s2, s3⟩)
    have S2 := Lib.hid (show w8.cell? ⟨g, 0, none⟩ = some (.map (some w.heap.size)) ∧ w8.cell? ⟨w1.heap.size, 0, none⟩ = some (.string k) ∧ w8.cell? ⟨w1.heap.size, 1, none⟩ = some (.bool false) from ⟨hkg.cell (p := ⟨g, 0, none⟩) (by show g ≠ g + 1; omega) s1, hk8.cell (p := ⟨w1.heap.size, 0, none⟩) (by show w1.heap.size ≠ g; have := HG.out.2.2.1; have := HB1.out.size; omega) s2, hk8.cell (p := ⟨w1.heap.size, 1, none⟩) (by show w1.heap.size ≠ g; have := HG.out.2.2.1; have := HB1.out.size; omega) s3⟩)
    have H8 := Lib.hid (And.intro ho8 (And.intro hk0 (And.intro hkl (And.intro (hkg.cell (p := ⟨g, 0, none⟩) (by show g ≠ g + 1; omega) s1) ((hkg.frozen (p := ⟨g, 0, none⟩) (by show g ≠ g + 1; omega) s1).trans ((World.frozen?_of_block (w := wq) (hW4.block g HG.out.2.2.1)).trans HG.out.2.1))))))
    clear ho8 ht8 hk8 hk0 hkg s1 s2 s3 ho4 hkl hrun hW4 hb4
    go_region_held3 (fun W => W.cell? ⟨g, 0, none⟩ = some (.map (some w.heap.size)) ∧ W.cell? ⟨w1.heap.size, 0, none⟩ = some (.string k) ∧ W.cell? ⟨w1.heap.size, 1, none⟩ = some (.bool false))
      (first | (exact S1.out) | (exact S2.out) | fail)
      (fail)
    go_wp2_with fail
    go_ret
    refine ⟨by rw [HHS.out]; rfl, ⟨HG.out.2.2.2.1, H8.out.2.2.2.2, _, H8.out.2.2.2.1, .inr ⟨w.heap.size, _, rfl, HG.out.2.2.2.2.1, H8.out.1, ?_⟩⟩, HKQ.out.trans H8.out.2.1⟩
    exact HD.out.2.1.put slaw smk_inj H8.out.2.2.1 v
/-- Put. -/
theorem sput_any (w : World) {B g N : Nat} {T : ByteArray → Option Int} (k : ByteArray) (v : Int) (hw : k.size ≤ maxLen) (hN : N < 100000) (h : sTSt B w g N T) (hsz : B ≤ w.heap.size) :
    Calls Try.prog 21 #[.pointer (some ⟨g, 0, none⟩), .string k, .int .i64 v] w fun e w' => e = .returned (.bool (T k).isSome) ∧ sTSt B w' g (N + 1) (putT T k v) ∧ Kp false B g w w' := by
  obtain ⟨vm, hc, hm⟩ := h.st
  rcases hm with ⟨rfl, h0⟩ | ⟨b, D, rfl, hbB, ho, hd⟩
  · exact sput_nil w k v hw hN h.le hc h.fr (funext h0) hsz
  · exact sput_map w k v hw hN h.le hbB hc h.fr ho hd hsz
end Go.Proofs.Ytkflekaibfkicaa
