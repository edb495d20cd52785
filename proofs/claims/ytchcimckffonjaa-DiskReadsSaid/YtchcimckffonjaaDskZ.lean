/- The statement's own disk: Read. -/
import Derived.Test.YtchcimckffonjaaDskY
namespace Go.Proofs.Ytchcimckffonjaa
open Go.RowKit

theorem flat_at : ∀ {S : List (List UInt8)} {i j : Nat} (_ : ∀ s ∈ S, s.length = 64) (hi : i < S.length) (_ : j < 64), S.flatten[i * 64 + j]? = (S[i])[j]?
  | [], _, _, _, hi, _ => absurd hi (Nat.not_lt_zero _)
  | s :: S, 0, j, h, _, hj => by
    have hs := h s (by simp)
    rw [List.flatten_cons, Nat.zero_mul, Nat.zero_add, List.getElem?_append_left (by omega)]
    rfl
  | s :: S, i + 1, j, h, hi, hj => by
    have hs := h s (by simp)
    rw [List.flatten_cons, List.getElem?_append_right (by omega), show (i + 1) * 64 + j - s.length = i * 64 + j by omega, flat_at (fun y hy => h y (by simp [hy])) (by simpa using hi) hj]
    rfl
/-- A sector of it reads as it stands. -/
theorem RDk.sec {w : World} {F : Nat → Prop} {B g : Nat} {D : Dk} (h : RDk w F B g D) {i : Nat} (hi : i < D.secs.length) : ∃ ga, w.cell? ⟨g, 0, none⟩ = some (.slice (some ⟨ga, 0, none⟩) (D.secs.length * 64) (D.secs.length * 64)) ∧ ga < w.heap.size ∧ Rd w w.heap.size (some ⟨ga, i * 64, none⟩) 64 D.secs[i] := by
  obtain ⟨ga, vw, cs, h1, h2, -⟩ := h.st
  have hg := (Array.getElem?_eq_some_iff.1 h2).1
  have hl := h.wide _ (List.getElem_mem hi)
  refine ⟨ga, by simp [World.cell?, h1], hg, hl, fun _ => ⟨ga, i * 64, rfl, hg, fun j hj => ?_⟩⟩
  rw [cell_of_row w ga _ _ _ _ h2, List.getElem?_toArray, List.getElem?_map, flat_at h.wide hi hj, List.getElem?_eq_getElem (by omega), List.getD_eq_getElem?_getD, List.getElem?_eq_getElem (by omega)]
  rfl
theorem cut_mid13 {ga M P Q : Nat} (h1 : P ≤ Q) (h2 : Q ≤ M) (h3 : Q - P = 64) (h4 : P < M) (W : World) : (Instr.slice 33 (.slice (some ⟨ga, 0, none⟩) M M) (some (.int .i64 (P : Int))) (some (.int .i64 (Q : Int))) none).run Try.prog W = .ok (.slice (some ⟨ga, P, none⟩) 64 (M - P)) W := by
  have hz := size_u8
  have ht := Try.underlying33
  have i1 : (0 : Int) ≤ (Q : Int) := by omega
  have i2 : (Q : Int) ≤ (M : Int) := by omega
  have i3 : (0 : Int) ≤ (P : Int) := by omega
  have i4 : (P : Int) ≤ (Q : Int) := by omega
  have e4 : ¬ M = P := by omega
  go_simp
/-- What Read answers. -/
def ReadR (D : Dk) (at_ : Int) (w : World) (e : Ending) (w' : World) : Prop := Below w.heap.size w w' ∧
  ((D.dead = true ∧ e = .returned (.tuple #[.slice none 0 0, .int .i64 131])) ∨ (D.dead = false ∧ (at_ < 0 ∨ (D.secs.length : Int) ≤ at_) ∧ e = .returned (.tuple #[.slice none 0 0, .int .i64 130])) ∨
   (D.dead = false ∧ 0 ≤ at_ ∧ at_ < (D.secs.length : Int) ∧ ∃ v l, (layW D.secs D.waits)[at_.toNat]? = some l ∧ e = .returned (.tuple #[v, .int .i64 0]) ∧ Ob w' w.heap.size 5 v l))

set_option maxRecDepth 100000 in
set_option maxHeartbeats 4000000 in
theorem rread_any (w : World) {F : Nat → Prop} {B g : Nat} {D : Dk} (at_ : Int) (h : RDk w F B g D) (hws : D.waits.length ≤ 1000000) :
    Calls Try.prog 18 #[.pointer (some ⟨g, 0, none⟩), .int .i64 at_] w (ReadR D at_ w) := by
  obtain ⟨ga, vw, ⟨c0, c1, c2, c3, c4⟩, hf⟩ := h.cells
  have H := Lib.hid h
  have HWS := Lib.hid hws
  have hfew := h.few
  clear hws c1 c3 c4 hf h
  have HD := Lib.hid (rfl : D.dead = D.dead)
  cases hd : D.dead with
  | true =>
    have HDD := Lib.hid hd
    rw [hd] at c2
    clear hd c0 hfew
    go_enter Try.func18, Try.ntmps18
    go_wp2_with fail
    refine bodyPost_ret (v := .tuple #[.slice none 0 0, .int .i64 131]) (by simp [results, Try.results18, go_sem]) rfl (show ReadR _ _ _ _ _ from ⟨Below.refl _ _, .inl ⟨HDD.out, rfl⟩⟩)
  | false =>
    have HDD := Lib.hid hd
    rw [hd] at c2
    obtain ⟨N, hN⟩ : ∃ N, N = D.secs.length := ⟨_, rfl⟩
    rw [← hN] at c0 hfew
    have HN := Lib.hid hN
    clear hd hN
    by_cases h0 : at_ < 0
    · go_enter Try.func18, Try.ntmps18
      go_wp2_with fail
      refine bodyPost_ret (v := .tuple #[.slice none 0 0, .int .i64 130]) (by simp [results, Try.results18, go_sem]) rfl (show ReadR _ _ _ _ _ from ⟨Below.refl _ _, .inr (.inl ⟨HDD.out, .inl (by omega), rfl⟩)⟩)
    have hdv : ((N * 64 : Nat) : Int) / 64 = (N : Int) := by omega
    have hwN : wrap64 (N : Int) = (N : Int) := by unfold wrap64; omega
    by_cases h1 : (N : Int) ≤ at_
    · have t1 : ¬ at_ < (N : Int) := by omega
      have HA : Hid ((D.secs.length : Int) ≤ at_) := by show _ ≤ _; rw [← HN.out]; exact h1
      go_enter Try.func18, Try.ntmps18
      go_wp2_with fail
      refine bodyPost_ret (v := .tuple #[.slice none 0 0, .int .i64 130]) (by simp [results, Try.results18, go_sem]) rfl (show ReadR _ _ _ _ _ from ⟨Below.refl _ _, .inr (.inl ⟨HDD.out, .inr HA.out, rfl⟩)⟩)
    obtain ⟨a, ha⟩ : ∃ a : Nat, at_ = (a : Int) := ⟨at_.toNat, by omega⟩
    subst ha
    have t1 : (a : Int) < (N : Int) := by omega
    obtain ⟨P, hP⟩ : ∃ P, P = a * 64 := ⟨_, rfl⟩
    obtain ⟨M, hM⟩ : ∃ M, M = N * 64 := ⟨_, rfl⟩
    obtain ⟨Q, hQ⟩ : ∃ Q, Q = P + 64 := ⟨_, rfl⟩
    rw [← hM] at c0 hdv
    have wm : IntKind.i64.wrap ((a : Int) * 64) = (P : Int) := by rw [IntKind.wrap_i64]; omega
    have wm2 : wrap64 ((a : Int) * 64) = (P : Int) := by unfold wrap64; omega
    have wp : IntKind.i64.wrap ((P : Int) + 64) = (Q : Int) := by rw [IntKind.wrap_i64]; omega
    have wp2 : wrap64 ((P : Int) + 64) = (Q : Int) := by unfold wrap64; omega
    have hz := size_u8
    have ht := Try.underlying33
    have cut := fun W => cut_mid13 (ga := ga) (M := M) (P := P) (Q := Q) (by omega) (by omega) (by omega) (by omega) W
    have HP : Hid (P = a * 64 ∧ M = N * 64 ∧ Q = P + 64) := ⟨hP, hM, hQ⟩
    have HAN : Hid (a < D.secs.length) := by show a < _; rw [← HN.out]; omega
    obtain ⟨ga', k0, hgal, hsec⟩ := H.out.sec HAN.out
    obtain rfl : ga' = ga := by
      rw [← HN.out, ← hM, c0] at k0
      injection k0 with k0
      injection k0 with k0 _ _
      injection k0 with k0
      injection k0 with k0
      exact k0.symm
    have hgl := H.out.lt
    have c0' : (w.alloc (.cells #[] 5)).cell? ⟨g, 0, none⟩ = some (.slice (some ⟨ga', 0, none⟩) M M) := (World.cell?_alloc_lt _ _ ⟨g, 0, none⟩ hgl).trans c0
    have HSEC : Hid (Rd w w.heap.size (some ⟨ga', P, none⟩) 64 D.secs[a]) := by show Rd _ _ _ _ _; rw [hP]; exact hsec
    have hs64 : Hid (D.secs[a].length = 64) := H.out.wide _ (List.getElem_mem HAN.out)
    clear h1 hP hM hQ k0 hgal hsec hgl
    go_enter Try.func18, Try.ntmps18
    go_wp2_with (first
      | (at_builtin; refine wpList_appB rfl (.tmp 24) (.tmp 34) 33 rfl w.heap.size 5 Try.underlying33 info_u8 _ [] rfl (Ob.lit w [] #[] rfl (Nat.le_refl _) 0 rfl (by decide)) w.heap.size _ 64 _ D.secs[a] rfl (HSEC.out.below ((Below.refl _ _).alloc (Nat.le_refl _) _)) (by simp) (le_alloc _ _) ?_; intro v2 w2 ho2 hb2; have O2 := Lib.hid (And.intro ho2 hb2); clear ho2 hb2)
      | fail)
    obtain ⟨n, hn⟩ : ∃ n, n = D.waits.length := ⟨_, rfl⟩
    have HNW := Lib.hid hn
    have hnb : n ≤ 1000000 := by rw [hn]; exact HWS.out
    have HS0 : Hid ((layW D.secs (D.waits.take 0))[a]? = some D.secs[a] ∧ Ob w2 w.heap.size 5 v2 D.secs[a] ∧ Below w.heap.size w w2) :=
      ⟨by rw [List.take_zero, layW_nil, List.getElem?_eq_getElem HAN.out]; rfl, O2.out.1, ((Below.refl _ _).alloc (Nat.le_refl _) _).trans O2.out.2⟩
    clear hn c0' hz ht cut wm wm2 wp wp2 hdv hwN c2 hfew t1
    go_loopw [6, 7] (fun v k wr => ∃ (i : Nat) (l : List UInt8), i ≤ n ∧ k = .int .i64 i ∧ (layW D.secs (D.waits.take i))[a]? = some l ∧ Ob wr w.heap.size 5 v l ∧ Below w.heap.size w wr) (fun _ k _ => n - (intOf k).toNat)
    case atStart => exact ⟨0, _, Nat.zero_le _, rfl, HS0.out⟩
    case round =>
      clear HS0
      obtain ⟨i, l, hi, rfl, hlay, ho, hb⟩ := hrel
      have HR := Lib.hid (And.intro hlay (And.intro ho hb))
      have hr := H.out.below hb
      clear hlay ho
      by_cases hlt : i < n
      · have tn : (i : Int) < (n : Int) := by omega
        have i0 : (0 : Int) ≤ (i : Int) := by omega
        have hil : i < D.waits.length := by rw [← HNW.out]; exact hlt
        obtain ⟨ga, gw, cap, c1, -, k1, k2, k3, hw, hwl, -, -⟩ := hr.wait (i := i) hil
        rw [← HNW.out] at k1
        have hstep : (layW D.secs (D.waits.take (i + 1)))[a]? = if D.waits[i].1 = a then some D.waits[i].2 else some l := by
          rw [List.take_add_one, List.getElem?_eq_getElem hil]
          show (layW D.secs (D.waits.take i ++ [D.waits[i]]))[a]? = _
          rw [layW_snoc]
          split
          · rename_i e
            rw [← e, List.getElem?_set_self (by rw [layW_len]; exact hr.inn _ (List.getElem_mem hil))]
          · rename_i e
            rw [List.getElem?_set_ne e]; exact HR.out.1
        have HST := Lib.hid hstep
        obtain ⟨Aw, cw, rfl, -, -, hrd⟩ := hw.rd
        rw [hwl] at hrd k3
        have HW := Lib.hid (And.intro hwl hrd)
        have HIL := Lib.hid hil
        have k1' : (wr.alloc (.cells #[] 5)).cell? ⟨g, 1, none⟩ = some (.slice (some ⟨gw, 0, none⟩) n cap) := (World.cell?_alloc_lt _ _ ⟨g, 1, none⟩ (World.block_lt_of_cell? wr ⟨g, 1, none⟩ k1)).trans k1
        have k3' : (wr.alloc (.cells #[] 5)).cell? ⟨gw, i * 2 + 1, none⟩ = some (.slice Aw 64 cw) := (World.cell?_alloc_lt _ _ ⟨gw, i * 2 + 1, none⟩ (World.block_lt_of_cell? wr ⟨gw, i * 2 + 1, none⟩ k3)).trans k3
        generalize hat : D.waits[i].1 = at_ at *
        generalize D.waits[i].2 = wl at *
        clear hstep hw hwl hrd hr hil hat
        by_cases hea : at_ = a
        · subst hea
          have hbe : ((at_ : Int) == (at_ : Int)) = true := by simp
          go_wp2_with (first
            | (at_builtin; refine wpList_appB rfl (.tmp 55) (.tmp 63) 33 rfl wr.heap.size 5 Try.underlying33 info_u8 _ [] rfl (Ob.lit wr [] #[] rfl (Nat.le_refl _) 0 rfl (by decide)) wr.heap.size _ 64 _ wl rfl (HW.out.2.below ((Below.refl _ _).alloc (Nat.le_refl _) _)) (by simp) (le_alloc _ _) ?_; intro v3 w3 ho3 hb3; have O3 := Lib.hid (And.intro ho3 hb3); clear ho3 hb3)
            | fail)
          have HB3 : Hid (Below w.heap.size w w3) := HR.out.2.2.trans ((((Below.refl wr.heap.size wr).alloc (Nat.le_refl _) _).trans O3.out.2).mono HR.out.2.2.size)
          have HO3 : Hid (Ob w3 w.heap.size 5 v3 wl) := by
            have h := O3.out.1
            rw [List.nil_append] at h
            refine ⟨h.1, ?_⟩
            rcases h.2 with hn | ⟨k, cap, cur, e, hb, hh, rest⟩
            · exact .inl hn
            · exact .inr ⟨k, cap, cur, e, Nat.le_trans HR.out.2.2.size hb, hh, rest⟩
          go_roundw
          case rel => exact ⟨i + 1, wl, by omega, by simp, by rw [HST.out, if_pos rfl], HO3.out, HB3.out⟩
          case measure => simp [intOf]; omega
        · have hbe : ((at_ : Int) == (a : Int)) = false := by simp; omega
          go_wp2_with fail
          go_roundw
          case rel => exact ⟨i + 1, l, by omega, by simp, by rw [HST.out, if_neg hea], HR.out.2.1, HR.out.2.2⟩
          case measure => simp [intOf]; omega
      · obtain rfl : n = i := by omega
        have tn : ¬ (n : Int) < (n : Int) := by omega
        obtain ⟨ga, vw, cs, s1, s2, s3, s4, s5, s6, -⟩ := hr.st
        obtain ⟨AW, cW, rfl, -⟩ := len_of_own s6
        rw [← HNW.out] at s1
        have k1 : wr.cell? ⟨g, 1, none⟩ = some (.slice AW n cW) := by simp [World.cell?, s1]
        have HL : Hid ((layW D.secs D.waits)[((a : Nat) : Int).toNat]? = some l) := by
          have h := HR.out.1
          rw [List.take_of_length_le (by rw [← HNW.out]; exact Nat.le_refl _)] at h
          exact h
        have HAI : Hid ((0 : Int) ≤ (a : Int) ∧ (a : Int) < (D.secs.length : Int)) := ⟨by omega, by have := HAN.out; omega⟩
        clear s1 s2 s3 s4 s5 s6 hr hlt hi hb
        go_wp2_with fail
        refine bodyPost_ret (by simp [results, Try.results18, go_sem]) rfl (show ReadR _ _ _ _ _ from ⟨HR.out.2.2, .inr (.inr ⟨HDD.out, HAI.out.1, HAI.out.2, _, l, HL.out, rfl, HR.out.2.1⟩)⟩)
end Go.Proofs.Ytchcimckffonjaa
