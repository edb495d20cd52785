/- The code's disk: Flush, Crash. -/
import Derived.Test.YtahgaogmcffglaaDoorJDscF
namespace Go.Proofs.YtahgaogmcffglaaDoor
open Go.RowKit

theorem tornW_ones : ∀ (ws : List (Nat × List UInt8)) (S : List (List UInt8)), tornW S ws (List.replicate ws.length 1) = layW S ws
  | [], S => by unfold tornW; rfl
  | w :: ws, S => by
    rw [List.length_cons, List.replicate_succ, tornW, layW_cons, tornW_ones ws]
    rfl
theorem tornW_noughts : ∀ (ws : List (Nat × List UInt8)) (S : List (List UInt8)) (n : Nat), (∀ x ∈ ws, x.1 < S.length) → tornW S ws (List.replicate n 0) = S
  | [], S, n, _ => by unfold tornW; rfl
  | w :: ws, S, 0, _ => rfl
  | w :: ws, S, n + 1, h => by
    have h0 := h w (by simp)
    have e : S.set w.1 (torn 0 (S[w.1]?.getD []) w.2) = S := by
      rw [List.getElem?_eq_getElem h0]
      show S.set w.1 S[w.1] = S
      rw [List.set_getElem_self]
    rw [List.replicate_succ, tornW, e, tornW_noughts ws S n (fun x hx => h x (by simp [hx]))]
/-- What keep says of each write, none where it says nothing. -/
def keepL (ks : List Int) (n : Nat) : List Int := (List.range n).map fun i => ks.getD i 0
theorem keepL_len (ks : List Int) (n : Nat) : (keepL ks n).length = n := by simp [keepL]
theorem keepL_cons (k : Int) (ks : List Int) (n : Nat) : keepL (k :: ks) (n + 1) = k :: keepL ks n := by
  unfold keepL
  rw [List.range_succ_eq_map, List.map_cons, List.map_map]
  rfl
theorem keepL_nil (n : Nat) : keepL [] n = List.replicate n 0 := by
  apply List.ext_getElem
  · simp [keepL]
  · intro i h1 h2; simp [keepL]
theorem tornW_keep : ∀ (ws : List (Nat × List UInt8)) (ks : List Int) (S : List (List UInt8)), (∀ x ∈ ws, x.1 < S.length) → tornW S ws (keepL ks ws.length) = tornW S ws ks
  | [], ks, S, _ => by unfold tornW; rfl
  | w :: ws, [], S, h => by rw [keepL_nil, tornW_noughts _ _ _ h, tornW_nil]
  | w :: ws, k :: ks, S, h => by
    rw [List.length_cons, keepL_cons, tornW, tornW, tornW_keep ws ks _ (fun x hx => by rw [List.length_set]; exact h x (by simp [hx]))]
set_option maxRecDepth 100000 in
set_option maxHeartbeats 1000000 in
theorem cwhole_any (i : Int) (w : World) : Calls Tryd.prog 36 #[.int .i64 i] w fun e w' => e = .returned (.int .i64 1) ∧ w = w' := by
  go_enter Tryd.func36, Tryd.ntmps36
  go_wp2_with fail
  go_ret
  exact ⟨rfl, rfl⟩
set_option maxRecDepth 100000 in
set_option maxHeartbeats 1000000 in
theorem ckeep_any {bx n c : Nat} {A : Option Addr} {ks : List Int} (i : Nat) (w : World) (hb : w.cell? ⟨bx, 0, none⟩ = some (.slice A n c)) (hn : n = ks.length) (hk : 0 < n → ∃ b o, A = some ⟨b, o, none⟩ ∧ ∀ j x, ks[j]? = some x → w.cell? ⟨b, o + j, none⟩ = some (.int .i64 x)) :
    Calls Tryd.prog 49 #[.int .i64 (i : Int), .pointer (some ⟨bx, 0, none⟩)] w fun e w' => e = .returned (.int .i64 (ks.getD i 0)) ∧ w = w' := by
  by_cases hi : i < n
  · obtain ⟨b, o, rfl, hc⟩ := hk (by omega)
    have hil : i < ks.length := by omega
    have c1 := hc i ks[i] (List.getElem?_eq_getElem hil)
    have e : ks.getD i 0 = ks[i] := by rw [List.getD_eq_getElem?_getD, List.getElem?_eq_getElem hil]; rfl
    rw [e]
    generalize ks[i] = k at *
    have tn : (i : Int) < (n : Int) := by omega
    have i0 : (0 : Int) ≤ (i : Int) := by omega
    have ea : (⟨b, o, none⟩ : Addr).add i = ⟨b, o + i, none⟩ := add_mk b o i
    clear hk hc e hn hil hi
    go_enter Tryd.func49, Tryd.ntmps49
    go_wp2_with fail
    go_ret
    exact ⟨rfl, rfl⟩
  · have e : ks.getD i 0 = 0 := by rw [List.getD_eq_getElem?_getD, List.getElem?_eq_none (by omega)]; rfl
    rw [e]
    have tn : ¬ (i : Int) < (n : Int) := by omega
    clear hk e hn hi
    go_enter Tryd.func49, Tryd.ntmps49
    go_wp2_with fail
    go_ret
    exact ⟨rfl, rfl⟩
def Cd.flush (D : Cd) : Cd × Int := if D.power = false then (D, 131) else if D.fp.power = false then (D.fp, 131) else ({ D.fp with secs := layW D.secs D.waits, waits := [] }, 0)

set_option maxRecDepth 100000 in
set_option maxHeartbeats 4000000 in
theorem cflush_any (w : World) {F : Nat → Prop} {B g : Nat} {D : Cd} (h : CDk w F B g D) (hws : D.waits.length ≤ 1000000) :
    Calls Tryd.prog 13 #[.pointer (some ⟨g, 0, none⟩)] w (CWriteR w F B g D.flush) := by
  have C1 := Lib.hid (cruns_any w h)
  have H := Lib.hid h
  have HWS := Lib.hid hws
  clear h hws
  cases hd : D.power with
  | false =>
    have HG : Hid (D.run = 131 ∧ D.flush = (D, 131)) := by show _ ∧ _; simp [Cd.run, Cd.flush, hd]
    rw [HG.out.2]
    rw [HG.out.1] at C1
    clear hd
    go_enter Tryd.func13, Tryd.ntmps13
    go_wp2_with fail
    refine C1.out.mono ?_
    rintro e w1 ⟨rfl, rfl⟩
    go_wp2_with fail
    go_ret
    exact (show CWriteR _ _ _ _ _ _ _ from ⟨F, H.out, rfl, Fr.refl F w, Grew.refl w F⟩)
  | true =>
    have HR0 : Hid (D.run = 0) := by show _ = _; simp [Cd.run, hd]
    rw [HR0.out] at C1
    have C2 := Lib.hid (cfinds_any w H.out)
    cases hg : D.fp.power with
    | false =>
      have HG : Hid (D.flush = (D.fp, 131)) := by show _ = _; rw [Cd.flush, if_neg (by simp [hd]), if_pos hg]
      rw [HG.out]
      rw [hg] at C2
      clear hd hg
      go_enter Tryd.func13, Tryd.ntmps13
      go_wp2_with fail
      refine C1.out.mono ?_
      rintro e w1 ⟨rfl, rfl⟩
      go_wp2_with fail
      refine C2.out.mono ?_
      rintro e w1 ⟨rfl, hr1, hf1⟩
      have H1 := Lib.hid (And.intro hr1 hf1)
      clear hr1 hf1
      go_wp2_with fail
      go_ret
      exact (show CWriteR _ _ _ _ _ _ _ from ⟨F, H1.out.1, rfl, H1.out.2, Grew.refl w F⟩)
    | true =>
      have HG : Hid (D.flush = ({ D.fp with secs := layW D.secs D.waits, waits := [] }, 0)) := by show _ = _; rw [Cd.flush, if_neg (by simp [hd]), if_neg (by simp [hg])]
      rw [HG.out]
      rw [hg] at C2
      clear hd hg
      go_enter Tryd.func13, Tryd.ntmps13
      go_wp2_with fail
      refine C1.out.mono ?_
      rintro e w1 ⟨rfl, rfl⟩
      go_wp2_with fail
      refine C2.out.mono ?_
      rintro e w1 ⟨rfl, hr1, hf1⟩
      have H1 := Lib.hid (And.intro hr1 hf1)
      clear hr1 hf1
      go_wp2_with fail
      refine (csettle_all w1 (List.replicate D.fp.waits.length 1) (by simp) H1.out.1 (by rw [Cd.fp_waits]; exact HWS.out) (fun i hi W _ => by rw [List.getElem_replicate]; exact cwhole_any i W)).mono ?_
      rintro e w2 ⟨rfl, hr2, hf2⟩
      have H2 := Lib.hid (And.intro hr2 hf2)
      clear hr2 hf2
      go_wp2_with fail
      go_ret
      have h2 := H2.out.1
      unfold Cd.settle at h2
      rw [tornW_ones, Cd.fp_secs, Cd.fp_waits] at h2
      exact (show CWriteR _ _ _ _ _ _ _ from ⟨F, h2, rfl, H1.out.2.trans H2.out.2 (Grew.refl w F), Grew.refl w F⟩)
def Cd.crash (D : Cd) (ks : List Int) : Cd := ⟨tornW D.secs D.waits ks, [], false, -1⟩

set_option maxRecDepth 100000 in
set_option maxHeartbeats 4000000 in
theorem ccrash_any (w : World) {F : Nat → Prop} {B g n c : Nat} {D : Cd} {A : Option Addr} {ks : List Int} (h : CDk w F B g D) (hws : D.waits.length ≤ 1000000) (hn : n = ks.length) (hk : ∀ W, Fr F w W → 0 < n → ∃ b o, A = some ⟨b, o, none⟩ ∧ ∀ j x, ks[j]? = some x → W.cell? ⟨b, o + j, none⟩ = some (.int .i64 x)) :
    Calls Tryd.prog 30 #[.pointer (some ⟨g, 0, none⟩), .slice A n c] w fun e w' => e = .returned (.tuple #[]) ∧ CDk w' F B g (D.crash ks) ∧ Fr F w w' := by
  have hb1 : Below w.heap.size w (w.alloc (.cells #[.slice A n c] 36)) := (Below.refl _ _).alloc (Nat.le_refl _) _
  have h1 := h.below hb1
  have C1 := Lib.hid (cgiven_any _ h1)
  have H1 := Lib.hid h1
  have HF : Hid (Fr F w (w.alloc (.cells #[.slice A n c] 36))) := (Fr.refl F w).alloc _
  have HNF : Hid (¬ F w.heap.size) := fun e => by have := (h.fit _ e).2; omega
  have HX : Hid ((w.alloc (.cells #[.slice A n c] 36)).heap[w.heap.size]? = some (.cells #[.slice A n c] 36 (0, 0))) := heap_alloc_new w _
  have HK := Lib.hid hk
  have HN := Lib.hid (And.intro hn hws)
  have HINN := Lib.hid h.inn
  clear h h1 hb1 hws hn hk
  go_enter Tryd.func30, Tryd.ntmps30
  go_wp2_with fail
  refine C1.out.mono ?_
  rintro e w1 ⟨rfl, rfl⟩
  go_wp2_with fail
  refine (csettle_keep (bx := w.heap.size) _ (keepL ks D.waits.length) (keepL_len _ _) H1.out HN.out.2 (fun i hi W hW => ?_)).mono ?_
  · have e : (keepL ks D.waits.length)[i] = ks.getD i 0 := by simp [keepL]
    rw [e]
    refine ckeep_any (c := c) i W ?_ HN.out.1 (HK.out W (HF.out.trans hW (Grew.refl _ _)))
    have hx := hW.block w.heap.size (by simp) HNF.out
    rw [cell_of_row W _ _ _ _ _ (hx.trans HX.out)]
    rfl
  rintro e w2 ⟨rfl, hr2, hf2⟩
  obtain ⟨ga, vw, s1, -⟩ := hr2.st
  have y2 : w2.cell? ⟨g, 2, none⟩ = some (.bool D.power) := by simp [World.cell?, s1, Cd.settle]
  have y3 : w2.cell? ⟨g, 3, none⟩ = some (.int .i64 D.left) := by simp [World.cell?, s1, Cd.settle]
  have f2 : w2.frozen? ⟨g, 2, none⟩ = false := by simp [World.frozen?, s1]
  have f3 : w2.frozen? ⟨g, 3, none⟩ = false := by simp [World.frozen?, s1]
  have H2 := Lib.hid (And.intro hr2 hf2)
  have S1 := Lib.hid s1
  clear hr2 hf2 s1
  go_wp2_with fail
  refine bodyPost_end (v := .tuple #[]) (by simp [results, Tryd.results30]) rfl ?_
  have hF : Fr F w2 ((w2.setCell ⟨g, 2, none⟩ (.bool false)).setCell ⟨g, 3, none⟩ (.int .i64 (-1))) := ((Fr.refl F w2).setCell (p := ⟨g, 2, none⟩) (.inl H2.out.1.fg) _).setCell (p := ⟨g, 3, none⟩) (.inl H2.out.1.fg) _
  have h3 := H2.out.1.turn false (-1) hF ⟨ga, vw, S1.out, row_setC (row_setC S1.out 2 _) 3 _⟩ (fun k hk => (Below.heap_setCell _ _ _ _ hk).trans (Below.heap_setCell _ _ _ _ hk))
  refine ⟨rfl, ?_, (HF.out.trans H2.out.2 (Grew.refl _ _)).trans hF (Grew.refl _ _)⟩
  unfold Cd.settle at h3
  unfold Cd.crash
  rw [tornW_keep _ _ _ HINN.out] at h3
  exact h3
end Go.Proofs.YtahgaogmcffglaaDoor
