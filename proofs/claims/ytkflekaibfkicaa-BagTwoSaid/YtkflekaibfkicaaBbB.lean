/- Tables and queues of other things go likewise. -/
import Derived.Test.YtkflekaibfkicaaBbA
namespace Go.Proofs.Ytkflekaibfkicaa
open Go.RowKit

set_option maxRecDepth 100000 in
set_option maxHeartbeats 8000000 in
theorem bagTwo_walk (A : Option Addr) (n c : Nat) (l : List ByteArray) (w : World) (h : RdS w A n l ∧ n ≤ c) :
    Calls Try.prog 6 #[.slice A n c] w fun e w' => e = .returned (.bool true) ∧ Below w.heap.size w w' := by
  have CH := Lib.hid (heads12_any w)
  have HA := Lib.hid h.1
  clear h
  by_cases h5 : (200 : Int) < n
  · go_enter Try.func6, Try.ntmps6
    go_wp2_with fail
    refine CH.out.mono ?_
    rintro e w' ⟨rfl, hb⟩
    have HB := Lib.hid hb
    go_wp2_with fail
    go_ret
    exact ⟨rfl, HB.out⟩
  obtain ⟨g1, hg1⟩ : ∃ g1, g1 = w.heap.size := ⟨_, rfl⟩
  obtain ⟨g2, hg2⟩ : ∃ g2, g2 = g1 + 1 := ⟨_, rfl⟩
  obtain ⟨w0, hw0⟩ : ∃ w0, w0 = (w.alloc (.cells #[.map none] 50)).alloc (.cells #[.chan none] 53) := ⟨_, rfl⟩
  have hc1 : w0.heap[g1]? = some (.cells #[.map none] 50) := by
    rw [hw0, hg1, Below.heap_alloc _ _ _ (by simp)]; exact heap_alloc_new w _
  have hc2 : w0.heap[g2]? = some (.cells #[.chan none] 53) := by
    have := heap_alloc_new (w.alloc (.cells #[.map none] 50)) (.cells #[.chan none] 53)
    rw [hw0, hg2, hg1]
    simpa only [World.size_alloc] using this
  have HS0 : Hid (sTSt w.heap.size w0 g1 0 (runS (l.take 0)) ∧ QSt w.heap.size w0 g2 g1 (pr 0 (l.take 0)) ∧ Below w.heap.size w w0) :=
    ⟨⟨by rw [hg1]; exact Nat.le_refl _, by simp [World.frozen?, hc1], .map none, by simp [World.cell?, hc1], .inl ⟨rfl, fun _ => by simp [runS]⟩⟩,
     ⟨by rw [hg2, hg1]; exact Nat.le_succ _, by simp [World.frozen?, hc2], .chan none, by simp [World.cell?, hc2], .inl ⟨rfl, by simp [pr]⟩⟩,
     by rw [hw0]; exact ((Below.refl _ _).alloc (Nat.le_refl _) _).alloc (by simp) _⟩
  have HNE : Hid (g1 ≠ g2) := by show _ ≠ _; omega
  have hn2 : n ≤ 200 := by omega
  clear hc1 hc2 CH
  go_enter Try.func6, Try.ntmps6
  go_wp2_with fail
  rw [← hw0, ← hg1, ← hg2]
  clear hw0 hg1 hg2 h5
  go_loopw [5] (fun k wr => ∃ i : Nat, i ≤ n ∧ k = .int .i64 i ∧ sTSt w.heap.size wr g1 i (runS (l.take i)) ∧ QSt w.heap.size wr g2 g1 (pr 0 (l.take i)) ∧ Below w.heap.size w wr) (fun k _ => n - (intOf k).toNat)
  case atStart => exact ⟨0, Nat.zero_le _, rfl, HS0.out⟩
  case round =>
    clear HS0
    obtain ⟨i, hi, rfl, hT, hQ, hb⟩ := hrel
    have HT := Lib.hid (And.intro hT (And.intro hQ hb))
    by_cases hlt : i < n
    · have tn : (i : Int) < (n : Int) := by omega
      have i0 : (0 : Int) ≤ (i : Int) := by omega
      obtain ⟨b, o, s, rfl, hx, hsz, hcs⟩ := (HA.out.below hb).at_ hlt
      have hil : (l.take i).length = i := by rw [List.length_take]; have := HA.out.1; omega
      have HX : Hid (l.take (i + 1) = l.take i ++ [s] ∧ (l.take i).length = i) := ⟨by rw [List.take_add_one, hx]; rfl, hil⟩
      have C1 := Lib.hid (sput_any wr s (i : Int) hsz (by omega : i < 100000) hT hb.size)
      have HBL := Lib.hid (HA.out.lt (by omega))
      have HCS := Lib.hid hcs
      clear hT hQ hb hx hsz hil
      go_wp2_with fail
      refine C1.out.mono ?_
      rintro e w2 ⟨rfl, hT2, hk2⟩
      have hq2 := HT.out.2.1.kpr hk2 HNE.out.symm
      have hb2 := HT.out.2.2.trans hk2.below
      have hc2 : w2.cell? ⟨b, o + i, none⟩ = some (.string s) := (hk2.below.cell (p := ⟨b, o + i, none⟩) HBL.out).trans HCS.out
      have hpl : (pr 0 (l.take i)).length = i := by rw [pr_len]; exact HX.out.2
      have C2 := Lib.hid (tpush_yes w2 (i : Int) (s.size : Int) (n : Int) hq2 (by rw [hpl]; omega) (by rw [hpl]; omega) hb2.size (hT2.lt))
      have H2 : Hid (sTSt w.heap.size w2 g1 (i + 1) (runS (l.take (i + 1))) ∧ Below w.heap.size w w2) := ⟨by rw [HX.out.1, runS_snoc, HX.out.2]; exact hT2, hb2⟩
      clear hT2 hk2 hq2 hb2 hpl hcs
      go_wp2_with fail
      refine C2.out.mono ?_
      rintro e w3 ⟨rfl, hq3, hk3⟩
      have H3 : Hid (sTSt w.heap.size w3 g1 (i + 1) (runS (l.take (i + 1))) ∧ QSt w.heap.size w3 g2 g1 (pr 0 (l.take (i + 1))) ∧ Below w.heap.size w w3) := ⟨H2.out.1.kp hk3 HNE.out, by rw [HX.out.1, pr_snoc, HX.out.2]; exact hq3, H2.out.2.trans hk3.below⟩
      clear hq3 hk3
      go_wp2_with fail
      go_roundw
      case rel => exact ⟨i + 1, by omega, by simp, H3.out⟩
      case measure => simp [intOf]; omega
    · obtain rfl : n = i := by omega
      have hfull : l.take n = l := List.take_of_length_le (by rw [← HA.out.1]; exact Nat.le_refl _)
      have CK := Lib.hid (skeys_any wr (by omega) hT)
      rw [hfull] at HT
      have tn : ¬ (n : Int) < (n : Int) := by omega
      clear hT hQ hb hfull hlt hi
      go_wp2_with fail
      refine CK.out.mono ?_
      rintro e w2 ⟨v, ks, rfl, hov, hr1, hlen, hb2⟩
      obtain ⟨A3, c3, rfl, -, hform⟩ := hov.form
      rw [List.length_map] at hform ⊢
      obtain ⟨m, hm⟩ : ∃ m, m = ks.length := ⟨_, rfl⟩
      rw [← hm] at hlen hform ⊢
      have H2 := Lib.hid (And.intro (HT.out.1.below hb2) (And.intro (HT.out.2.1.below hb2) (HT.out.2.2.trans (hb2.mono HT.out.2.2.size))))
      have HK := Lib.hid (And.intro hr1 (And.intro hm hform))
      have hm3 : m ≤ 200 := by omega
      clear hov hlen hb2 hm hr1 HT CK hform
      go_wp2_with fail
      go_loopw [7] (fun k wr => ∃ j : Nat, (j ≤ m ∨ j = 1) ∧ 1 ≤ j ∧ k = .int .i64 j ∧ Below w2.heap.size w2 wr) (fun k _ => m - (intOf k).toNat)
      case atStart => exact ⟨1, .inr rfl, Nat.le_refl _, rfl, Below.refl _ _⟩
      case round =>
        obtain ⟨q, hj, hj1, rfl, hb⟩ := hrel
        have HB := Lib.hid hb
        by_cases hlt : q < m
        · have tn : (q : Int) < (m : Int) := by omega
          obtain ⟨j, hq⟩ : ∃ j, q = j + 1 := ⟨q - 1, by omega⟩
          have i0 : (0 : Int) ≤ (q : Int) := by omega
          have j0 : (0 : Int) ≤ (j : Int) := by omega
          have tj : (j : Int) < (m : Int) := by omega
          have hs1 : (q : Int) - 1 = (j : Int) := by omega
          obtain ⟨b3, rfl, -, hbl3, hcell⟩ := HK.out.2.2 (by omega)
          have hql : q < ks.length := by rw [← HK.out.2.1]; exact hlt
          have hjl : j < ks.length := by omega
          have hcx : wr.cell? ⟨b3, q, none⟩ = some (.string ks[q]) := (hb.cell (p := ⟨b3, q, none⟩) hbl3).trans (hcell q _ (by rw [List.getElem?_map, List.getElem?_eq_getElem hql]; rfl))
          have hcy : wr.cell? ⟨b3, j, none⟩ = some (.string ks[j]) := (hb.cell (p := ⟨b3, j, none⟩) hbl3).trans (hcell j _ (by rw [List.getElem?_map, List.getElem?_eq_getElem hjl]; rfl))
          have hxy : Rss ks[j] ks[q] := List.pairwise_iff_getElem.1 HK.out.1 j q hjl hql (by omega)
          have HX := Lib.hid hxy
          generalize ks[q] = x at *
          generalize ks[j] = y at *
          have hxy2 : (Op.bytesLess x.toList y.toList || x.toList == y.toList) = false := HX.out
          have HJ := Lib.hid hq
          clear hb hql hjl hxy hcell hq
          go_wp2_with fail
          go_quiet (fail)
          have HQ : Hid (Below w2.heap.size w2 (wr.drewN nq)) := HB.out.trans ((below_dN wr nq).mono HB.out.size)
          generalize wr.drewN nq = wq at *
          go_wp2_with fail
          go_roundw
          case rel => exact ⟨q + 1, .inl (by omega), by omega, by simp, HQ.out⟩
          case measure => simp [intOf]; omega
        · have tn : ¬ (q : Int) < (m : Int) := by omega
          have H3 := Lib.hid (And.intro (H2.out.1.below hb) (And.intro (H2.out.2.1.below hb) (H2.out.2.2.trans (hb.mono H2.out.2.2.size))))
          clear hb HB H2 hj hm3
          generalize wr = wd at *
          go_wp2_with fail
          clear tn hlt hj1
          go_loopw [8] (fun k wr => ∃ i : Nat, i ≤ n ∧ k = .int .i64 i ∧ sTSt w.heap.size wr g1 n (runS l) ∧ QSt w.heap.size wr g2 g1 (pr i (l.drop i)) ∧ Below w.heap.size w wr) (fun k _ => n - (intOf k).toNat)
          case atStart => exact ⟨0, Nat.zero_le _, rfl, H3.out⟩
          case round =>
            obtain ⟨i, hi, rfl, hT, hQ, hb⟩ := hrel
            have HT := Lib.hid (And.intro hT (And.intro hQ hb))
            clear H3
            by_cases hlt : i < n
            case neg =>
              obtain rfl : n = i := by omega
              have tn : ¬ (n : Int) < (n : Int) := by omega
              have hdr : l.drop n = [] := List.drop_eq_nil_of_le (by have := HA.out.1; omega)
              rw [hdr] at hQ
              have C8 := Lib.hid (tlen_any wr (l := []) hQ)
              have C9 := Lib.hid (heads12_any wr)
              clear hT hQ hb hdr
              go_wp2_with fail
              refine C8.out.mono ?_
              rintro e w8 ⟨rfl, rfl⟩
              go_wp2_with fail
              refine C9.out.mono ?_
              rintro e w9 ⟨rfl, hb9⟩
              have H9 := Lib.hid (HT.out.2.2.trans (hb9.mono HT.out.2.2.size))
              clear hb9
              go_wp2_with fail
              go_ret
              exact ⟨rfl, H9.out⟩
            have tn : (i : Int) < (n : Int) := by omega
            have i0 : (0 : Int) ≤ (i : Int) := by omega
            obtain ⟨b, o, s, rfl, hx, hsz, hc1⟩ := (HA.out.below hb).at_ hlt
            have HBL := Lib.hid (HA.out.lt (by omega))
            have HX := Lib.hid (And.intro hx (And.intro hsz hc1))
            clear hT hQ hb hx hsz hc1
            generalize wr = wc at *
            go_wp2_with fail
            go_loopw [9, 10] (fun la j wr => ∃ p q : Nat, p < n ∧ i ≤ q ∧ q ≤ n ∧ la = .int .i64 p ∧ j = .int .i64 q ∧ l[p]? = some s ∧ (∀ t y, p < t → t < q → l[t]? = some y → y ≠ s) ∧ Below wc.heap.size wc wr) (fun _ j _ => n - (intOf j).toNat)
            case atStart => exact ⟨i, i, hlt, Nat.le_refl _, hi, rfl, rfl, HX.out.1, fun t y h1 h2 => by omega, Below.refl _ _⟩
            case round =>
              obtain ⟨p, q, hp, hiq, hq, rfl, rfl, hy, hbet, hb⟩ := hrel
              have HP := Lib.hid (And.intro hy (And.intro hbet hb))
              have hc1 : wr.cell? ⟨b, o + i, none⟩ = some (.string s) := (hb.cell (p := ⟨b, o + i, none⟩) (Nat.lt_of_lt_of_le HBL.out HT.out.2.2.size)).trans HX.out.2.2
              have hra := HA.out.below (HT.out.2.2.trans (hb.mono HT.out.2.2.size))
              have hTr := HT.out.1.below hb
              have hQr := HT.out.2.1.below hb
              clear hy hbet
              by_cases hlq : q < n
              · have tq : (q : Int) < (n : Int) := by omega
                have q0 : (0 : Int) ≤ (q : Int) := by omega
                obtain ⟨b', o', s2, e', hx2, -, hd1⟩ := hra.at_ hlq
                injection e' with e'
                injection e' with e1 e2 _
                subst e1 e2
                have HX2 := Lib.hid hx2
                clear hra hx2 hb hTr hQr
                by_cases hkk : s2 = s
                · subst hkk
                  go_wp2_with fail
                  go_quiet (fail)
                  have HQ : Hid (Below wc.heap.size wc (wr.drewN nq)) := HP.out.2.2.trans ((below_dN wr nq).mono HP.out.2.2.size)
                  generalize wr.drewN nq = wq at *
                  go_wp2_with fail
                  go_roundw
                  case rel => exact ⟨q, q + 1, hlq, by omega, by omega, rfl, by simp, HX2.out, fun t y h1 h2 => by omega, HQ.out⟩
                  case measure => simp [intOf]; omega
                · have hkb : (s2.toList == s.toList) = false := by
                    rw [beq_eq_false_iff_ne, ByteArray.toList_eq, ByteArray.toList_eq]
                    exact fun e => hkk (nbytes_inj e)
                  go_wp2_with fail
                  go_quiet (fail)
                  have HQ : Hid (Below wc.heap.size wc (wr.drewN nq)) := HP.out.2.2.trans ((below_dN wr nq).mono HP.out.2.2.size)
                  generalize wr.drewN nq = wq at *
                  go_wp2_with fail
                  go_roundw
                  case rel =>
                    refine ⟨p, q + 1, hp, by omega, by omega, rfl, by simp, HP.out.1, fun t y h1 h2 h3 => ?_, HQ.out⟩
                    by_cases htq : t = q
                    · subst htq
                      rw [HX2.out] at h3
                      injection h3 with h3
                      rw [← h3]
                      exact hkk
                    · exact HP.out.2.1 t y h1 (by omega) h3
                  case measure => simp [intOf]; omega
              · obtain rfl : n = q := by omega
                have tq : ¬ (n : Int) < (n : Int) := by omega
                have hlast := runS_last HP.out.1 (fun t y h1 h3 => HP.out.2.1 t y h1 (by
                  rcases Nat.lt_or_ge t n with h | h
                  · exact h
                  · rw [List.getElem?_eq_none (by have := HA.out.1; omega)] at h3; cases h3) h3)
                have hdr : l.drop i = s :: l.drop (i + 1) := by
                  have h1 : i < l.length := by have := HA.out.1; omega
                  rw [List.drop_eq_getElem_cons h1]
                  congr 1
                  have := HX.out.1
                  rw [List.getElem?_eq_getElem h1] at this
                  injection this
                rw [hdr, pr_cons] at hQr
                have CG : Hid (Calls Try.prog 24 #[.pointer (some ⟨g1, 0, none⟩), .string s] wr fun e w' => e = .returned (.tuple #[.int .i64 (p : Int), .bool true]) ∧ Below wr.heap.size wr w') := (sget_any wr s HX.out.2.1 hTr).mono fun _ _ h => ⟨h.1.trans (by rw [hlast]; rfl), h.2⟩
                have HR := Lib.hid (And.intro hTr (And.intro hQr (And.intro (HT.out.2.2.trans (hb.mono HT.out.2.2.size)) hc1)))
                clear hra hlast hdr hTr hQr hb
                go_wp2_with fail
                refine CG.out.mono ?_
                rintro e w5 ⟨rfl, hb5⟩
                have C6 := Lib.hid (tpop_some w5 (i : Int) (s.size : Int) (HR.out.2.1.below hb5) (Nat.le_trans HR.out.2.2.1.size hb5.size))
                have H5 := Lib.hid (And.intro (HR.out.1.below hb5) (HR.out.2.2.1.trans (hb5.mono HR.out.2.2.1.size)))
                clear hb5
                go_wp2_with fail
                refine C6.out.mono ?_
                rintro e w6 ⟨rfl, hq6, hk6⟩
                have H6 := Lib.hid (And.intro (H5.out.1.kp hk6 HNE.out) (And.intro hq6 (H5.out.2.trans hk6.below)))
                have HC6 : Hid (∀ W, Below w6.heap.size w6 W → W.cell? ⟨b, o + i, none⟩ = some (.string s)) := fun W hW => by
                  obtain ⟨b', o', s', e', hx', -, hc'⟩ := (HA.out.below (H6.out.2.2.trans (hW.mono H6.out.2.2.size))).at_ hlt
                  injection e' with e'
                  injection e' with e1 e2 _
                  subst e1 e2
                  have := HX.out.1.symm.trans hx'
                  injection this with this
                  rw [this]; exact hc'
                have hnp := neq_pair (i : Int) (s.size : Int)
                have hpp : ((p : Int) != (p : Int)) = false := by simp
                clear hq6 hk6 hc1
                go_wp2_with fail
                obtain ⟨z, hz⟩ : ∃ z, z = w6.heap.size := ⟨_, rfl⟩
                obtain ⟨w7, hw7⟩ : ∃ w7, w7 = w6.alloc (.cells #[.int .i64 (i : Int), .int .i64 (s.size : Int)] 56) := ⟨_, rfl⟩
                have hcz : w7.heap[z]? = some (.cells #[.int .i64 (i : Int), .int .i64 (s.size : Int)] 56) := by rw [hw7, hz]; exact heap_alloc_new w6 _
                have c70 : w7.cell? ⟨z, 0, none⟩ = some (.int .i64 (i : Int)) := by simp [World.cell?, hcz]
                have c71 : w7.cell? ⟨z, 1, none⟩ = some (.int .i64 (s.size : Int)) := by simp [World.cell?, hcz]
                have hb7 : Below w6.heap.size w6 w7 := by rw [hw7]; exact (Below.refl _ _).alloc (Nat.le_refl _) _
                have c72 := HC6.out w7 hb7
                rw [← hz, ← hw7]
                have H7 : Hid (sTSt w.heap.size w7 g1 n (runS l) ∧ QSt w.heap.size w7 g2 g1 (pr (i + 1) (l.drop (i + 1))) ∧ Below w.heap.size w w7) := ⟨H6.out.1.below hb7, H6.out.2.1.below hb7, H6.out.2.2.trans (hb7.mono H6.out.2.2.size)⟩
                clear hb7 hz hw7 hcz
                go_quiet (fail)
                have HQ : Hid (Below w7.heap.size w7 (w7.drewN nq)) := below_dN w7 nq
                generalize w7.drewN nq = wq at *
                go_wp2_with fail
                go_roundw
                case rel => exact ⟨i + 1, by omega, by simp, H7.out.1.below HQ.out, H7.out.2.1.below HQ.out, H7.out.2.2.trans (HQ.out.mono H7.out.2.2.size)⟩
                case measure => simp [intOf]; omega
end Go.Proofs.Ytkflekaibfkicaa
