/- The keys rise, and each has what was put last. -/
import Derived.Test.YtkflekaibfkicaaBagY
import Derived.Deep.RegionHeld3
namespace Go.Proofs.Ytkflekaibfkicaa
open Go.RowKit

set_option maxRecDepth 100000 in
set_option maxHeartbeats 8000000 in
theorem bagKeys_walk (A : Option Addr) (n c : Nat) (l : List OpT) (w : World) (h : RdO w A n l ∧ n ≤ c) :
    Calls Try.prog 4 #[.slice A n c] w fun e w' => e = .returned (.bool true) ∧ Below w.heap.size w w' := by
  have CH := Lib.hid (heads12_any w)
  have HA := Lib.hid h.1
  clear h
  by_cases h5 : (300 : Int) < n
  · go_enter Try.func4, Try.ntmps4
    go_wp2_with fail
    refine CH.out.mono ?_
    rintro e w' ⟨rfl, hb⟩
    have HB := Lib.hid hb
    go_wp2_with fail
    go_ret
    exact ⟨rfl, HB.out⟩
  obtain ⟨g, hg⟩ : ∃ g, g = w.heap.size := ⟨_, rfl⟩
  have hcg : (w.alloc (.cells #[.map none] 26)).heap[g]? = some (.cells #[.map none] 26) := by rw [hg]; exact heap_alloc_new w _
  have HS0 : Hid (nTSt w.heap.size (w.alloc (.cells #[.map none] 26)) g 0 (runT (l.take 0)) ∧ Below w.heap.size w (w.alloc (.cells #[.map none] 26))) := ⟨⟨by rw [hg]; exact Nat.le_refl _, by simp [World.frozen?, hcg], .map none, by simp [World.cell?, hcg], .inl ⟨rfl, fun _ => by simp [runT]⟩⟩, (Below.refl _ _).alloc (Nat.le_refl _) _⟩
  have HG := Lib.hid hg
  have hn3 : n ≤ 300 := by omega
  clear hcg hg CH
  go_enter Try.func4, Try.ntmps4
  go_wp2_with fail
  rw [← HG.out]
  clear h5
  go_loopw [4] (fun k wr => ∃ i : Nat, i ≤ n ∧ k = .int .i64 i ∧ nTSt w.heap.size wr g i (runT (l.take i)) ∧ Below w.heap.size w wr) (fun k _ => n - (intOf k).toNat)
  case atStart => exact ⟨0, Nat.zero_le _, rfl, HS0.out⟩
  case round =>
    clear HS0
    obtain ⟨i, hi, rfl, hT, hb⟩ := hrel
    have HT := Lib.hid (And.intro hT hb)
    by_cases hlt : i < n
    · have tn : (i : Int) < (n : Int) := by omega
      have i0 : (0 : Int) ≤ (i : Int) := by omega
      obtain ⟨b, o, ⟨kd, k, v⟩, rfl, hx, hwf, hc0, hc1, hc2⟩ := (HA.out.below hb).at_ hlt
      have HX : Hid (l.take (i + 1) = l.take i ++ [(kd, k, v)]) := by show _ = _; rw [List.take_add_one, hx]; rfl
      clear hT hb hx
      by_cases hk1 : kd = 1
      · subst hk1
        have C1 := Lib.hid (ndel_any wr k hwf HT.out.1 HT.out.2.size)
        clear hwf
        go_wp2_with fail
        refine C1.out.mono ?_
        rintro e w2 ⟨rfl, hT2, hk2⟩
        have H2 : Hid (nTSt w.heap.size w2 g (i + 1) (runT (l.take (i + 1))) ∧ Below w.heap.size w w2) := ⟨by rw [HX.out, runT_snoc]; exact (show nTSt w.heap.size w2 g i (opT (runT (l.take i)) (1, k, v)) from hT2).mono (Nat.le_succ i), HT.out.2.trans hk2.below⟩
        clear hT2 hk2
        go_wp2_with fail
        go_roundw
        case rel => exact ⟨i + 1, by omega, by simp, H2.out⟩
        case measure => simp [intOf]; omega
      · have tk : (kd == 1) = false := by simpa using hk1
        have C1 := Lib.hid (nput_any wr.drew k v hwf (by omega : i < 100000) (HT.out.1.below (W := wr.drew) ⟨rfl, rfl, rfl, Nat.le_refl _, fun _ _ => rfl⟩) HT.out.2.size)
        have HBL := Lib.hid (HA.out.lt (by omega))
        have HCC := Lib.hid (And.intro hc0 (And.intro hc1 hc2))
        clear hwf
        go_wp2_with fail
        go_region_held3 (fun W => W.cell? ⟨b, o + i * 3 + 1, none⟩ = some (.int .i64 k) ∧ W.cell? ⟨b, o + i * 3 + 2, none⟩ = some (.string v))
          (first | (exact HCC.out.2) | (exact HD.out) | fail)
          (first | (go_at_call 9; refine C1.out.mono ?_; rintro e w2 ⟨rfl, hT2, hk2⟩
                    have HD : Hid (w2.cell? ⟨b, o + i * 3 + 1, none⟩ = some (.int .i64 k) ∧ w2.cell? ⟨b, o + i * 3 + 2, none⟩ = some (.string v)) := ⟨(hk2.below.cell (p := ⟨b, o + i * 3 + 1, none⟩) HBL.out).trans HCC.out.2.1, (hk2.below.cell (p := ⟨b, o + i * 3 + 2, none⟩) HBL.out).trans HCC.out.2.2⟩
                    have H1 := Lib.hid (And.intro hT2 hk2)
                    clear hT2 hk2) | fail)
        have H2 : Hid (nTSt w.heap.size w2 g (i + 1) (runT (l.take (i + 1))) ∧ Below w.heap.size w w2) := by
          refine ⟨?_, HT.out.2.drew.trans H1.out.2.below⟩
          have e : opT (runT (l.take i)) (kd, k, v) = putT (runT (l.take i)) k v := if_neg hk1
          rw [HX.out, runT_snoc, e]
          exact H1.out.1
        go_wp2_with fail
        go_roundw
        case rel => exact ⟨i + 1, by omega, by simp, H2.out⟩
        case measure => simp [intOf]; omega
    · obtain rfl : n = i := by omega
      have hfull : l.take n = l := List.take_of_length_le (by rw [← HA.out.1]; exact Nat.le_refl _)
      have CK := Lib.hid (nkeys_any wr (by omega) hT)
      rw [hfull] at HT CK
      have tn : ¬ (n : Int) < (n : Int) := by omega
      clear hT hb hfull hlt hi
      go_wp2_with fail
      refine CK.out.mono ?_
      rintro e w2 ⟨v, ks, rfl, hov, hr1, hr2, hlen, hb2⟩
      obtain ⟨A3, c3, rfl, -, hrz⟩ := hov.rz
      obtain ⟨m, hm⟩ : ∃ m, m = ks.length := ⟨_, rfl⟩
      rw [← hm] at hrz hlen ⊢
      have H2 := Lib.hid (And.intro (HT.out.1.below hb2) (HT.out.2.trans (hb2.mono HT.out.2.size)))
      have HK := Lib.hid (And.intro hrz hr1)
      have hm3 : m ≤ 300 := by omega
      clear hov hr2 hlen hb2 hm hrz hr1 HT CK
      go_wp2_with fail
      go_loopw [6] (fun k wr => ∃ j : Nat, j ≤ m ∧ k = .int .i64 j ∧ Below w2.heap.size w2 wr) (fun k _ => m - (intOf k).toNat)
      case atStart => exact ⟨0, Nat.zero_le _, rfl, Below.refl _ _⟩
      case round =>
        obtain ⟨j, hj, rfl, hb⟩ := hrel
        have HB := Lib.hid hb
        by_cases hlt : j < m
        · have tn : (j : Int) < (m : Int) := by omega
          rcases j with _ | j
          · clear hb
            go_wp2_with fail
            go_quiet (fail)
            have HQ : Hid (Below w2.heap.size w2 (wr.drewN nq)) := HB.out.trans ((below_dN wr nq).mono HB.out.size)
            generalize wr.drewN nq = wq at *
            go_wp2_with fail
            go_roundw
            case rel => exact ⟨1, by omega, by simp, HQ.out⟩
            case measure => simp [intOf]; omega
          · obtain ⟨q, hq⟩ : ∃ q, q = j + 1 := ⟨_, rfl⟩
            rw [← hq] at hj hlt tn ⊢
            have i0 : (0 : Int) ≤ (q : Int) := by omega
            have j0 : (0 : Int) ≤ (j : Int) := by omega
            have q0 : 0 < q := by omega
            have q1 : decide ((0 : Int) < (q : Int)) = true := by simp; omega
            have q2 : decide (0 < q) = true := by simp; omega
            have tj : (j : Int) < (m : Int) := by omega
            have hs1 : (q : Int) - 1 = (j : Int) := by omega
            obtain ⟨b, o, x, rfl, hx, hcx⟩ := (HK.out.1.below hb).at_ hlt
            obtain ⟨b', o', y, e', hy, hcy⟩ := (HK.out.1.below hb).at_ (i := j) (by omega)
            injection e' with e'
            injection e' with e1 e2 _
            subst e1 e2
            have hxy : decide (x ≤ y) = false := by
              have h1 := List.pairwise_iff_getElem.1 HK.out.2 j q (by have := HK.out.1.1; omega) (by have := HK.out.1.1; omega) (by omega)
              rw [List.getElem?_eq_getElem (by have := HK.out.1.1; omega)] at hx hy
              injection hx with hx
              injection hy with hy
              rw [hx, hy] at h1
              simp; omega
            have HJ := Lib.hid hq
            clear hb hx hy hq
            go_wp2_with fail
            go_quiet (fail)
            have HQ : Hid (Below w2.heap.size w2 (wr.drewN nq)) := HB.out.trans ((below_dN wr nq).mono HB.out.size)
            generalize wr.drewN nq = wq at *
            go_wp2_with fail
            go_roundw
            case rel => exact ⟨q + 1, by omega, by simp, HQ.out⟩
            case measure => simp [intOf]; omega
        · obtain rfl : j = m := by omega
          have tn : ¬ (j : Int) < (j : Int) := by omega
          have H3 := Lib.hid (And.intro (H2.out.1.below hb) (H2.out.2.trans (hb.mono H2.out.2.size)))
          clear hb HB H2 HK
          clear tn hlt hj hm3
          generalize wr = wd at *
          go_wp2_with fail
          go_loopw [7] (fun k wr => ∃ i : Nat, i ≤ n ∧ k = .int .i64 i ∧ nTSt w.heap.size wr g n (runT l) ∧ Below w.heap.size w wr) (fun k _ => n - (intOf k).toNat)
          case atStart => exact ⟨0, Nat.zero_le _, rfl, H3.out.1, H3.out.2⟩
          case round =>
            obtain ⟨i, hi, rfl, hT, hb⟩ := hrel
            have HT := Lib.hid (And.intro hT hb)
            clear H3
            by_cases hlt : i < n
            case neg =>
              obtain rfl : n = i := by omega
              have tn : ¬ (n : Int) < (n : Int) := by omega
              have C9 := Lib.hid (heads12_any wr)
              clear hT hb
              go_wp2_with fail
              refine C9.out.mono ?_
              rintro e w9 ⟨rfl, hb9⟩
              have H9 := Lib.hid (HT.out.2.trans (hb9.mono HT.out.2.size))
              clear hb9
              go_wp2_with fail
              go_ret
              exact ⟨rfl, H9.out⟩
            have tn : (i : Int) < (n : Int) := by omega
            have i0 : (0 : Int) ≤ (i : Int) := by omega
            obtain ⟨b, o, ⟨kd, k, v⟩, rfl, hx, hwf, -, hc1, -⟩ := (HA.out.below hb).at_ hlt
            have HBL := Lib.hid (HA.out.lt (by omega))
            have HX := Lib.hid (And.intro hx (And.intro hwf hc1))
            clear hT hb hx hwf hc1
            generalize wr = wc at *
            go_wp2_with fail
            go_loopw [8, 9] (fun la j wr => ∃ p q : Nat, p < n ∧ i ≤ q ∧ q ≤ n ∧ la = .int .i64 p ∧ j = .int .i64 q ∧ (∃ y, l[p]? = some y ∧ y.2.1 = k) ∧ (∀ t y, p < t → t < q → l[t]? = some y → y.2.1 ≠ k) ∧ Below wc.heap.size wc wr) (fun _ j _ => n - (intOf j).toNat)
            case atStart => exact ⟨i, i, hlt, Nat.le_refl _, hi, rfl, rfl, ⟨_, HX.out.1, rfl⟩, fun t y h1 h2 => by omega, Below.refl _ _⟩
            case round =>
              obtain ⟨p, q, hp, hiq, hq, rfl, rfl, hy, hbet, hb⟩ := hrel
              have HP := Lib.hid (And.intro hy (And.intro hbet hb))
              have hc1 : wr.cell? ⟨b, o + i * 3 + 1, none⟩ = some (.int .i64 k) := (hb.cell (p := ⟨b, o + i * 3 + 1, none⟩) (Nat.lt_of_lt_of_le HBL.out HT.out.2.size)).trans HX.out.2.2
              have hra := HA.out.below (HT.out.2.trans (hb.mono HT.out.2.size))
              clear hy hbet hb
              by_cases hlq : q < n
              · have tq : (q : Int) < (n : Int) := by omega
                have q0 : (0 : Int) ≤ (q : Int) := by omega
                obtain ⟨b', o', ⟨kd2, k2, v2⟩, e', hx2, -, -, hd1, -⟩ := hra.at_ hlq
                injection e' with e'
                injection e' with e1 e2 _
                subst e1 e2
                have HX2 := Lib.hid hx2
                clear hra hx2
                by_cases hkk : k2 = k
                · subst hkk
                  have hkb : (k2 == k2) = true := by simp
                  go_wp2_with fail
                  go_quiet (fail)
                  have HQ : Hid (Below wc.heap.size wc (wr.drewN nq)) := HP.out.2.2.trans ((below_dN wr nq).mono HP.out.2.2.size)
                  generalize wr.drewN nq = wq at *
                  go_wp2_with fail
                  go_roundw
                  case rel => exact ⟨q, q + 1, hlq, by omega, by omega, rfl, by simp, ⟨_, HX2.out, rfl⟩, fun t y h1 h2 => by omega, HQ.out⟩
                  case measure => simp [intOf]; omega
                · have hkb : (k2 == k) = false := by simpa using hkk
                  go_wp2_with fail
                  go_quiet (fail)
                  have HQ : Hid (Below wc.heap.size wc (wr.drewN nq)) := HP.out.2.2.trans ((below_dN wr nq).mono HP.out.2.2.size)
                  generalize wr.drewN nq = wq at *
                  go_wp2_with fail
                  go_roundw
                  case rel =>
                    refine ⟨p, q + 1, hp, by omega, by omega, rfl, by simp, HP.out.1, fun t y h1 h2 h3 => ?_, HQ.out⟩
                    by_cases htq : t = q
                    · subst htq
                      rw [HX2.out] at h3
                      injection h3 with h3
                      rw [← h3]
                      exact hkk
                    · exact HP.out.2.1 t y h1 (by omega) h3
                  case measure => simp [intOf]; omega
              · obtain rfl : n = q := by omega
                have tq : ¬ (n : Int) < (n : Int) := by omega
                have p0 : (0 : Int) ≤ (p : Int) := by omega
                have tp : (p : Int) < (n : Int) := by omega
                obtain ⟨b', o', ⟨kd2, k2, v2⟩, e', hx2, -, hd0, -, hd2⟩ := hra.at_ hp
                injection e' with e'
                injection e' with e1 e2 _
                subst e1 e2
                obtain ⟨y, hy1, hy2⟩ := HP.out.1
                obtain rfl : y = (kd2, k2, v2) := by rw [hx2] at hy1; injection hy1 with hy1; exact hy1.symm
                obtain rfl : k2 = k := hy2
                have hlast := runT_last hx2 (fun t y h1 h3 => HP.out.2.1 t y h1 (by
                  rcases Nat.lt_or_ge t n with h | h
                  · exact h
                  · rw [List.getElem?_eq_none (by have := HA.out.1; omega)] at h3; cases h3) h3)
                have CG := Lib.hid (nget_any wr k2 HX.out.2.1 (HT.out.1.below HP.out.2.2))
                have HC := Lib.hid (And.intro hd0 hd2)
                have HLT := Lib.hid hlast
                have HBW : Hid (∀ W, Below wr.heap.size wr W → W.cell? ⟨b, o + p * 3, none⟩ = some (.int .i64 kd2) ∧ W.cell? ⟨b, o + p * 3 + 2, none⟩ = some (.string v2)) := fun W hW => ⟨(World.cell?_of_block (w := wr) (hW.block b (World.block_lt_of_cell? wr ⟨b, o + p * 3, none⟩ hd0))).trans hd0, (World.cell?_of_block (w := wr) (hW.block b (World.block_lt_of_cell? wr ⟨b, o + p * 3 + 2, none⟩ hd2))).trans hd2⟩
                clear hra hx2 hy1 hd0 hd2 hlast
                by_cases hkd : kd2 = 1
                · subst hkd
                  have CG2 : Hid (Calls Try.prog 13 #[.pointer (some ⟨g, 0, none⟩), .int .i64 k2] wr fun e w' => e = .returned (.tuple #[.string ⟨#[]⟩, .bool false]) ∧ Below wr.heap.size wr w') := CG.out.mono fun _ _ h => ⟨h.1.trans (by rw [HLT.out]; rfl), h.2⟩
                  clear CG
                  go_wp2_with fail
                  refine CG2.out.mono ?_
                  rintro e w5 ⟨rfl, hb5⟩
                  obtain ⟨hm0, hm2⟩ := HBW.out _ hb5
                  have H5 : Hid (nTSt w.heap.size w5 g n (runT l) ∧ Below w.heap.size w w5) := ⟨(HT.out.1.below HP.out.2.2).below hb5, HT.out.2.trans ((HP.out.2.2.mono HT.out.2.size).trans (hb5.mono (Nat.le_trans HT.out.2.size HP.out.2.2.size)))⟩
                  clear hb5
                  go_wp2_with fail
                  go_roundw
                  case rel => exact ⟨i + 1, by omega, by simp, H5.out.1, H5.out.2⟩
                  case measure => simp [intOf]; omega
                · have CG2 : Hid (Calls Try.prog 13 #[.pointer (some ⟨g, 0, none⟩), .int .i64 k2] wr fun e w' => e = .returned (.tuple #[.string v2, .bool true]) ∧ Below wr.heap.size wr w') := CG.out.mono fun _ _ h => ⟨h.1.trans (by rw [HLT.out, if_neg hkd]; rfl), h.2⟩
                  have hkb : (kd2 != 1) = true := by simpa using hkd
                  clear CG
                  go_wp2_with fail
                  refine CG2.out.mono ?_
                  rintro e w5 ⟨rfl, hb5⟩
                  obtain ⟨hm0, hm2⟩ := HBW.out _ hb5
                  have H5 : Hid (nTSt w.heap.size w5 g n (runT l) ∧ Below w.heap.size w w5) := ⟨(HT.out.1.below HP.out.2.2).below hb5, HT.out.2.trans ((HP.out.2.2.mono HT.out.2.size).trans (hb5.mono (Nat.le_trans HT.out.2.size HP.out.2.2.size)))⟩
                  clear hb5
                  go_wp2_with fail
                  go_roundw
                  case rel => exact ⟨i + 1, by omega, by simp, H5.out.1, H5.out.2⟩
                  case measure => simp [intOf]; omega
end Go.Proofs.Ytkflekaibfkicaa
