/- The statement's own disk: Crash. -/
import Derived.Test.YtchcimckffonjaaDskY
namespace Go.Proofs.Ytchcimckffonjaa
open Go.RowKit

theorem tornW_snoc {w : Nat × List UInt8} {k : Int} : ∀ (ws : List (Nat × List UInt8)) (ks : List Int) (S : List (List UInt8)), ws.length = ks.length → tornW S (ws ++ [w]) (ks ++ [k]) = (tornW S ws ks).set w.1 (torn k ((tornW S ws ks)[w.1]?.getD []) w.2)
  | [], [], _, _ => rfl
  | [], _ :: _, _, h => by simp at h
  | _ :: _, [], _, h => by simp at h
  | x :: ws, y :: ks, S, h => by
    rw [List.cons_append, List.cons_append, tornW, tornW_snoc ws ks _ (by simpa using h), tornW]
theorem tornW_take : ∀ (ws : List (Nat × List UInt8)) (ks : List Int) (S : List (List UInt8)) (m : Nat), ws.length ≤ m ∨ ks.length ≤ m → tornW S (ws.take m) (ks.take m) = tornW S ws ks
  | [], ks, S, m, _ => by rw [List.take_nil]; unfold tornW; rfl
  | w :: ws, [], S, m, _ => by rw [List.take_nil, tornW_nil, tornW_nil]
  | w :: ws, k :: ks, S, 0, h => by simp at h
  | w :: ws, k :: ks, S, m + 1, h => by
    rw [List.take_succ_cons, List.take_succ_cons, tornW, tornW, tornW_take ws ks _ m (by simpa using h)]
theorem part_2 {old new : List UInt8} : part old new 0 32 = torn 2 old new := by
  unfold part torn
  rw [if_neg (by decide), if_pos rfl]
  simp
theorem part_3 {old new : List UInt8} (h1 : old.length = 64) (h2 : new.length = 64) : part old new 32 64 = torn 3 old new := by
  unfold part torn
  rw [if_neg (by decide), if_neg (by decide), if_pos rfl]
  have e1 : old.drop 64 = [] := List.drop_eq_nil_of_le (by omega)
  have e2 : (new.drop 32).take (64 - 32) = new.drop 32 := List.take_of_length_le (by simp; omega)
  rw [e1, e2, List.append_nil]
def Dk.crash (D : Dk) (ks : List Int) : Dk := ⟨tornW D.secs D.waits ks, [], true, false, D.left⟩

set_option maxRecDepth 100000 in
set_option maxHeartbeats 8000000 in
theorem rcrash_any (w : World) {F : Nat → Prop} {B g n c : Nat} {D : Dk} {A : Option Addr} {ks : List Int} (h : RDk w F B g D) (hws : D.waits.length ≤ 1000000) (hn : n = ks.length) (hk : ∀ W, Fr F w W → 0 < n → ∃ b o, A = some ⟨b, o, none⟩ ∧ ∀ j x, ks[j]? = some x → W.cell? ⟨b, o + j, none⟩ = some (.int .i64 x)) :
    Calls Try.prog 22 #[.pointer (some ⟨g, 0, none⟩), .slice A n c] w fun e w' => e = .returned (.tuple #[]) ∧ RDk w' F B g (D.crash ks) ∧ Fr F w w' := by
  obtain ⟨S, ws, dd, aa, ll⟩ := D
  obtain ⟨m, hm⟩ : ∃ m, m = ws.length := ⟨_, rfl⟩
  have H := Lib.hid h
  have HM : Hid (m = ws.length ∧ n = ks.length) := ⟨hm, hn⟩
  have HK := Lib.hid hk
  have hmb : m ≤ 1000000 := by rw [hm]; exact hws
  clear h hws hm hn hk
  go_enter Try.func22, Try.ntmps22
  go_wp2_with fail
  go_loopw [4] (fun k wr => ∃ i : Nat, i ≤ m ∧ i ≤ n ∧ k = .int .i64 i ∧ RDk wr F B g ⟨tornW S (ws.take i) (ks.take i), ws, dd, aa, ll⟩ ∧ Fr F w wr) (fun k _ => m - (intOf k).toNat)
  case atStart =>
    refine ⟨0, Nat.zero_le _, Nat.zero_le _, rfl, ?_, Fr.refl F w⟩
    rw [List.take_zero, List.take_zero, tornW_nil]
    exact H.out
  case round =>
    obtain ⟨i, him, hin, rfl, hr, hfr⟩ := hrel
    have HR := Lib.hid (And.intro hr hfr)
    by_cases hlt : i < m ∧ i < n
    case neg =>
      obtain ⟨ga, vw, cs, s1, s2, s3, s4, s5, s6, -⟩ := hr.st
      obtain ⟨AW, cW, rfl, -⟩ := len_of_own s6
      change wr.heap[g]? = some (.cells #[_, .slice AW ws.length cW, _, _, _] _ _) at s1
      have HE : Hid (tornW S (ws.take i) (ks.take i) = tornW S ws ks) := tornW_take ws ks S i (by have h1 := HM.out.1; have h2 := HM.out.2; omega)
      rw [← HM.out.1] at s1
      have k1 : wr.cell? ⟨g, 1, none⟩ = some (.slice AW m cW) := by simp [World.cell?, s1]
      have k2 : wr.cell? ⟨g, 2, none⟩ = some (.bool dd) := by simp [World.cell?, s1]
      have k3 : wr.cell? ⟨g, 3, none⟩ = some (.bool aa) := by simp [World.cell?, s1]
      have f1 : ∀ j, wr.frozen? ⟨g, j, none⟩ = false := fun j => by simp [World.frozen?, s1]
      have f1' := f1 1
      have f2' := f1 2
      have f3' := f1 3
      have HF : Hid (RDk (((wr.setCell ⟨g, 1, none⟩ (.slice none 0 0)).setCell ⟨g, 2, none⟩ (.bool true)).setCell ⟨g, 3, none⟩ (.bool false)) F B g (Dk.crash ⟨S, ws, dd, aa, ll⟩ ks) ∧ Fr F w (((wr.setCell ⟨g, 1, none⟩ (.slice none 0 0)).setCell ⟨g, 2, none⟩ (.bool true)).setCell ⟨g, 3, none⟩ (.bool false))) := by
        obtain ⟨hc, hcf⟩ := hr.clear
        have hF2 : Fr F (wr.setCell ⟨g, 1, none⟩ (.slice none 0 0)) (((wr.setCell ⟨g, 1, none⟩ (.slice none 0 0)).setCell ⟨g, 2, none⟩ (.bool true)).setCell ⟨g, 3, none⟩ (.bool false)) := ((Fr.refl F _).setCell (p := ⟨g, 2, none⟩) (.inl hr.fg) _).setCell (p := ⟨g, 3, none⟩) (.inl hr.fg) _
        obtain ⟨ga2, vw2, cs2, t1, -⟩ := hc.st
        have h3 := hc.turn true false ll hF2 ⟨ga2, vw2, t1, row_setC (row_setC t1 2 _) 3 _⟩ (fun k hk => (Below.heap_setCell _ _ _ _ hk).trans (Below.heap_setCell _ _ _ _ hk))
        refine ⟨?_, (HR.out.2.trans hcf (Grew.refl w F)).trans hF2 (Grew.refl w F)⟩
        unfold Dk.crash
        rw [← HE.out]
        exact h3
      clear s1 s2 s3 s4 s5 s6 hr hfr f1
      by_cases h1 : i < m
      · have h2 : ¬ i < n := fun h => hlt ⟨h1, h⟩
        have t1 : (i : Int) < (m : Int) := by omega
        have t2 : ¬ (i : Int) < (n : Int) := by omega
        clear hlt
        go_wp2_with fail
        refine bodyPost_end (v := .tuple #[]) (by simp [results, Try.results22]) rfl ⟨rfl, HF.out⟩
      · have t1 : ¬ (i : Int) < (m : Int) := by omega
        clear hlt
        go_wp2_with fail
        refine bodyPost_end (v := .tuple #[]) (by simp [results, Try.results22]) rfl ⟨rfl, HF.out⟩
    have tm : (i : Int) < (m : Int) := by omega
    have tn : (i : Int) < (n : Int) := by omega
    have i0 : (0 : Int) ≤ (i : Int) := by omega
    have hil : i < ws.length := by rw [← HM.out.1]; exact hlt.1
    have hik : i < ks.length := by rw [← HM.out.2]; exact hlt.2
    obtain ⟨ga, gw, cap, c1, k0, k1, k2, k3, ho, hl, hne, hFg⟩ := hr.wait (i := i) hil
    change wr.cell? ⟨g, 1, none⟩ = some (.slice (some ⟨gw, 0, none⟩) ws.length cap) at k1
    change wr.cell? ⟨gw, i * 2, none⟩ = some (.int .i64 (ws[i].1 : Int)) at k2
    change Ob wr B 5 c1 ws[i].2 at ho
    change ws[i].2.length = 64 at hl
    rw [← HM.out.1] at k1
    have hat : ws[i].1 < (tornW S (ws.take i) (ks.take i)).length := hr.inn _ (List.getElem_mem hil)
    have hold := hr.wide _ (List.getElem_mem hat)
    obtain ⟨kb, ko, rfl, hkc⟩ := HK.out wr hfr (by omega)
    have kk := hkc i _ (List.getElem?_eq_getElem hik)
    have hstep : tornW S (ws.take (i + 1)) (ks.take (i + 1)) = (tornW S (ws.take i) (ks.take i)).set ws[i].1 (torn ks[i] ((tornW S (ws.take i) (ks.take i))[ws[i].1]'hat) ws[i].2) := by
      rw [List.take_add_one, List.take_add_one, List.getElem?_eq_getElem hil, List.getElem?_eq_getElem hik]
      show tornW S (ws.take i ++ [ws[i]]) (ks.take i ++ [ks[i]]) = _
      rw [tornW_snoc _ _ _ (by simp; omega), List.getElem?_eq_getElem hat]
      rfl
    have HST := Lib.hid hstep
    have HGA := Lib.hid hFg
    have HO := Lib.hid (And.intro hr (And.intro k0 (And.intro ho (And.intro hl (And.intro hne (And.intro hat hold))))))
    generalize ks[i] = kp at *
    clear hstep k0 ho hl hne hr hfr hFg hkc hik
    by_cases hk1 : kp = 1
    · subst hk1
      have C2 := Lib.hid (rdone_any wr (f := 0) (t := 64) HO.out.1 HO.out.2.1 HO.out.2.2.2.2.2.1 HO.out.2.2.1 HO.out.2.2.2.1 HO.out.2.2.2.2.1 (by decide) (by decide))
      go_wp2_with fail
      refine C2.out.mono ?_
      rintro e w2 ⟨rfl, hr2, hf2⟩
      have H2 : Hid (RDk w2 F B g ⟨tornW S (ws.take (i + 1)) (ks.take (i + 1)), ws, dd, aa, ll⟩ ∧ Fr F w w2) := by
        refine ⟨?_, HR.out.2.trans (hf2.mono fun k e => e ▸ HGA.out) (Grew.refl w F)⟩
        have e3 := part_all HO.out.2.2.2.2.2.2 HO.out.2.2.2.1
        rw [HST.out]
        first
          | (rw [show torn 1 _ _ = _ from e3.symm]; exact hr2)
          | (rw [show torn 1 ((tornW S (ws.take i) (ks.take i))[ws[i].1]'hat) ws[i].2 = ws[i].2 from if_pos rfl, ← e3]; exact hr2)
      clear hr2 hf2
      go_wp2_with fail
      go_roundw
      case rel => exact ⟨i + 1, by omega, by omega, by simp, H2.out⟩
      case measure => simp [intOf]; omega
    have tk1 : (kp == 1) = false := by simpa using hk1
    by_cases hk2 : kp = 2
    · subst hk2
      have C2 := Lib.hid (rdone_any wr (f := 0) (t := 32) HO.out.1 HO.out.2.1 HO.out.2.2.2.2.2.1 HO.out.2.2.1 HO.out.2.2.2.1 HO.out.2.2.2.2.1 (by decide) (by decide))
      go_wp2_with fail
      refine C2.out.mono ?_
      rintro e w2 ⟨rfl, hr2, hf2⟩
      have H2 : Hid (RDk w2 F B g ⟨tornW S (ws.take (i + 1)) (ks.take (i + 1)), ws, dd, aa, ll⟩ ∧ Fr F w w2) := by
        refine ⟨?_, HR.out.2.trans (hf2.mono fun k e => e ▸ HGA.out) (Grew.refl w F)⟩
        have e3 := part_2 (old := (tornW S (ws.take i) (ks.take i))[ws[i].1]'hat) (new := ws[i].2)
        rw [HST.out]
        first
          | (rw [show torn 2 _ _ = _ from e3.symm]; exact hr2)
          | (rw [show torn 2 ((tornW S (ws.take i) (ks.take i))[ws[i].1]'hat) ws[i].2 = ws[i].2 from if_pos rfl, ← e3]; exact hr2)
      clear hr2 hf2
      go_wp2_with fail
      go_roundw
      case rel => exact ⟨i + 1, by omega, by omega, by simp, H2.out⟩
      case measure => simp [intOf]; omega
    have tk2 : (kp == 2) = false := by simpa using hk2
    by_cases hk3 : kp = 3
    · subst hk3
      have C2 := Lib.hid (rdone_any wr (f := 32) (t := 64) HO.out.1 HO.out.2.1 HO.out.2.2.2.2.2.1 HO.out.2.2.1 HO.out.2.2.2.1 HO.out.2.2.2.2.1 (by decide) (by decide))
      go_wp2_with fail
      refine C2.out.mono ?_
      rintro e w2 ⟨rfl, hr2, hf2⟩
      have H2 : Hid (RDk w2 F B g ⟨tornW S (ws.take (i + 1)) (ks.take (i + 1)), ws, dd, aa, ll⟩ ∧ Fr F w w2) := by
        refine ⟨?_, HR.out.2.trans (hf2.mono fun k e => e ▸ HGA.out) (Grew.refl w F)⟩
        have e3 := part_3 HO.out.2.2.2.2.2.2 HO.out.2.2.2.1
        rw [HST.out]
        first
          | (rw [show torn 3 _ _ = _ from e3.symm]; exact hr2)
          | (rw [show torn 3 ((tornW S (ws.take i) (ks.take i))[ws[i].1]'hat) ws[i].2 = ws[i].2 from if_pos rfl, ← e3]; exact hr2)
      clear hr2 hf2
      go_wp2_with fail
      go_roundw
      case rel => exact ⟨i + 1, by omega, by omega, by simp, H2.out⟩
      case measure => simp [intOf]; omega
    have tk3 : (kp == 3) = false := by simpa using hk3
    have H2 : Hid (RDk wr F B g ⟨tornW S (ws.take (i + 1)) (ks.take (i + 1)), ws, dd, aa, ll⟩) := by
      have e3 : torn kp ((tornW S (ws.take i) (ks.take i))[ws[i].1]'hat) ws[i].2 = ((tornW S (ws.take i) (ks.take i))[ws[i].1]'hat) := by unfold torn; rw [if_neg hk1, if_neg hk2, if_neg hk3]
      show RDk _ _ _ _ _
      rw [HST.out, e3, List.set_getElem_self]
      exact HR.out.1
    clear hk1 hk2 hk3
    go_wp2_with fail
    go_roundw
    case rel => exact ⟨i + 1, by omega, by omega, by simp, H2.out, HR.out.2⟩
    case measure => simp [intOf]; omega
end Go.Proofs.Ytchcimckffonjaa
