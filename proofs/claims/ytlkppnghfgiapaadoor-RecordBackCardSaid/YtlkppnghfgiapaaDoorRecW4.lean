/- RecordBack. (Made by gen/RecW4.py.) -/
import Derived.Test.YtlkppnghfgiapaaDoorRecX
namespace Go.Proofs.YtlkppnghfgiapaaDoor
open Go.RowKit

set_option maxRecDepth 100000 in
set_option maxHeartbeats 16000000 in
theorem recordBack_walk (a0 : Int) (A : Option Addr) (n c : Nat) (L : List Rcd) (cut : Int) (w : World) (X : Snt14) (w0 : (Lit.int .u64 a0).wf = true) (hd : n ≤ c ∧ RwA w A n L) (_wc : (Lit.int .i64 cut).wf = true) (hA : Lds14 X w) :
    Calls Tryd.prog 5 #[.int .u64 a0, .slice A n c, .int .i64 cut] w fun e w' => e = .returned (.bool true) ∧ Below w.heap.size w w' := by
  obtain ⟨salt, rfl, hsl⟩ := nat_u64_14 w0
  obtain ⟨hnc, h⟩ := hd
  have LA : Hid (∀ W, Below w.heap.size w W → Lds14 X W) := fun W hW => hA.below hW (Nat.le_refl _)
  have HH := Lib.hid (fun W (hW : Below w.heap.size w W) => heads14_any X W (LA.out W hW))
  have HSL := Lib.hid hsl
  have HR := Lib.hid h
  have HNC := Lib.hid hnc
  have HLN : Hid (L.length = n) := h.1
  by_cases hlong : n ≤ 30
  case neg =>
    have hi : (30 : Int) < (n : Int) := by omega
    clear h hA hlong hnc hsl w0
    go_enter Tryd.func5, Tryd.ntmps5
    go_wp2_with fail
    refine (HH.out w (Lib.hid (Below.refl w.heap.size w)).out).mono ?_
    rintro e wh ⟨rfl, hbh⟩
    have BH := Lib.hid ((Lib.hid (Below.refl w.heap.size w)).out.trans (hbh.mono (Lib.hid (Below.refl w.heap.size w)).out.size))
    clear hbh
    go_wp2_with fail
    go_ret
    exact ⟨rfl, BH.out⟩
  have hi : ¬ (30 : Int) < (n : Int) := by omega
  have HN := Lib.hid hlong
  have ob0 : Ov14 (w.alloc (.cells #[.int .i64 0] 3)) w.heap.size (.slice (some ⟨w.heap.size, 0, none⟩) 1 1) (offsV salt L 0) := by
    rw [offsV_zero]
    exact World.ownsRow_lit (e := 3) (size := 1) w #[.int .i64 0] 1 (Nat.le_refl _) (by decide) rfl
  have OB0 := Lib.hid ob0
  have B0 : Hid (Below w.heap.size w (w.alloc (.cells #[.int .i64 0] 3))) := (Below.refl _ _).alloc (Nat.le_refl _) _
  clear h hA hlong hnc hsl w0 ob0
  go_enter Tryd.func5, Tryd.ntmps5
  go_wp2_with fail
  go_loopw [6, 7, 8, 9] (fun v6 v7 v8 v9 wl => ∃ k : Nat, v6 = .bool false ∧ v9 = .int .i64 (k : Int) ∧ k ≤ n ∧ Hid (Ob wl w.heap.size 5 v7 (framesR salt (L.take k)) ∧ Ov14 wl w.heap.size v8 (offsV salt L k) ∧ Below w.heap.size w wl) ∧ Hid (∀ r ∈ L.take k, rokR r = true ∧ r.dat.length ≤ 300)) (fun _ _ _ v9 _ => n - (intOf v9).toNat)
  case atStart => exact ⟨0, rfl, rfl, Nat.zero_le _, ⟨Ob.nil_ _ _ _, OB0.out, B0.out⟩, fun r hr => absurd hr (by simp)⟩
  case round =>
    obtain ⟨k, rfl, rfl, hk, HS, HO⟩ := hrel
    obtain ⟨A8, c8, rfl, -, hx8⟩ := HS.out.2.1.form
    rw [offsV_len] at hx8 HS ⊢
    have HX8 := Lib.hid hx8
    obtain ⟨A7, c7, rfl, hc7, hm7, hr7⟩ := HS.out.1.rd
    have hl7 : (framesR salt (L.take k)).length = offR salt L k := rfl
    rw [hl7] at hc7 hr7 HS ⊢
    have R7 := Lib.hid hr7
    have HC7 := Lib.hid hc7
    have HM7 := Lib.hid hm7
    have HOK := Lib.hid (offR_bd salt (L.take k) k (fun r hr => (HO.out r hr).2) (by rw [List.length_take]; have := HN.out; have := HLN.out; omega))
    clear hx8 hc7 hm7 hr7 hl7
    by_cases hlt : k < n
    · have hkl : k < L.length := by rw [HLN.out]; exact hlt
      obtain ⟨b, o, rfl, hb, hx⟩ := HR.out.2 (by omega)
      obtain ⟨Ad, nd, cd, g0, g1, g2, g3⟩ := hx k (L[k]'hkl) (List.getElem?_eq_getElem hkl)
      obtain ⟨r, hr⟩ : ∃ r, r = L[k]'hkl := ⟨_, rfl⟩
      rw [← hr] at g0 g3
      have HRK : Hid (L[k]? = some r) := by show _ = _; rw [hr]; exact List.getElem?_eq_getElem hkl
      have HI : (k : Int) < (n : Int) := by omega
      have KX : Hid (∀ W, Below w.heap.size w W → W.cell? ⟨b, o + k * 2, none⟩ = some (.int .i64 r.typ) ∧ W.cell? ⟨b, o + k * 2 + 1, none⟩ = some (.slice Ad nd cd)) := fun W hW => ⟨(hW.cell (p := ⟨b, o + k * 2, none⟩) hb).trans g0, (hW.cell (p := ⟨b, o + k * 2 + 1, none⟩) hb).trans g1⟩
      obtain ⟨x0, x1⟩ := KX.out wr HS.out.2.2
      have RD := Lib.hid g3
      have HDN : Hid (r.dat.length = nd) := g3.1
      have CF := Lib.hid (cframe_any X salt r.typ Ad nd cd w.heap.size r.dat wr (LA.out wr HS.out.2.2) HSL.out (g3.below HS.out.2.2) HS.out.2.2.size)
      unfold FrmR recV at CF
      rw [show (⟨r.typ, r.dat⟩ : Rcd) = r from rfl] at CF
      clear hb hx g0 g1 g2 g3 hr hkl
      cases hrk : rokR r with
      | false =>
        rw [hrk, if_neg (by decide), if_neg (by decide)] at CF
        go_wp2_with fail
        refine CF.out.mono ?_
        rintro e w2 ⟨hb2, v2, z2, rfl, rfl, -⟩
        have B2 := Lib.hid (HS.out.2.2.trans (hb2.mono HS.out.2.2.size))
        clear hb2 x0 x1
        go_wp2_with fail
        refine (HH.out w2 B2.out).mono ?_
        rintro e wh ⟨rfl, hbh⟩
        have BH := Lib.hid (B2.out.trans (hbh.mono B2.out.size))
        clear hbh
        go_wp2_with fail
        go_ret
        exact ⟨rfl, BH.out⟩
      | true =>
        rw [hrk, if_pos rfl, if_pos rfl] at CF
        have HRK2 := Lib.hid hrk
        clear hrk
        by_cases h3 : nd ≤ 300
        case neg =>
          have e3 : (300 : Int) < (nd : Int) := by omega
          go_wp2_with fail
          refine CF.out.mono ?_
          rintro e w2 ⟨hb2, v2, z2, rfl, rfl, -⟩
          have B2 := Lib.hid (HS.out.2.2.trans (hb2.mono HS.out.2.2.size))
          clear x0 x1
          obtain ⟨x0, x1⟩ := KX.out w2 B2.out
          clear hb2
          go_wp2_with fail
          refine (HH.out w2 B2.out).mono ?_
          rintro e wh ⟨rfl, hbh⟩
          have BH := Lib.hid (B2.out.trans (hbh.mono B2.out.size))
          clear hbh
          go_wp2_with fail
          go_ret
          exact ⟨rfl, BH.out⟩
        have e3 : ¬ (300 : Int) < (nd : Int) := by omega
        have H3 := Lib.hid h3
        have LF : Hid ((frameR salt r).length = nd + 7) := by show _ = _; rw [frameR_len, HDN.out]
        have ES : Hid (framesR salt (L.take k) ++ frameR salt r = framesR salt (L.take (k + 1))) := by show _ = _; exact (framesR_at salt HRK.out).symm
        have EO : Hid (offR salt L (k + 1) = offR salt L k + (nd + 7)) := by show _ = _; rw [offR_at salt HRK.out, HDN.out]
        have EB : Hid (offR salt L k ≤ 9210) := by
          show _ ≤ _
          have h := HOK.out
          unfold offR at *
          rwa [List.take_take, Nat.min_self] at h
        have w91 : IntKind.i64.wrap ((k : Int) + 1) = (k : Int) + 1 := by rw [IntKind.wrap_i64]; omega
        clear h3
        go_wp2_with fail
        refine CF.out.mono ?_
        rintro e w2 ⟨hb2, v2, z2, rfl, rfl, ho2⟩
        have B2 := Lib.hid (HS.out.2.2.trans (hb2.mono HS.out.2.2.size))
        have S2 := Lib.hid (HS.out.1.below hb2)
        have T2 := Lib.hid (HS.out.2.1.below hb2)
        obtain ⟨A2, c2, hv2, hc2, hm2, hr2⟩ := ho2.rd
        rw [LF.out] at hv2 hr2
        subst hv2
        have R2 := Lib.hid hr2
        clear x0 x1
        obtain ⟨x0, x1⟩ := KX.out w2 B2.out
        clear hb2 ho2 hr2 hc2 hm2
        have K1 : Hid (∀ W v3 v4, Ob W w.heap.size 5 v3 (framesR salt (L.take (k + 1))) → Ov14 W w.heap.size v4 (offsV salt L (k + 1)) → Below w.heap.size w W → Hid (Ob W w.heap.size 5 v3 (framesR salt (L.take (k + 1))) ∧ Ov14 W w.heap.size v4 (offsV salt L (k + 1)) ∧ Below w.heap.size w W)) := fun W v3 v4 h1 h2 h3 => ⟨h1, h2, h3⟩
        go_upto_region 12 with (first
          | (at_builtin; refine wpList_app rfl (.tmp 47) (.tmp 48) 23 rfl w.heap.size 5 Tryd.underlying23 info_u8 _ (framesR salt (L.take k)) rfl S2.out _ A2 (nd + 7) c2 (frameR salt r) rfl R2.out (by rw [show (framesR salt (L.take k)).length = offR salt L k from rfl]; have := EB.out; have := H3.out; omega) B2.out.size ?_; intro v3 w3 ho3 hg3 hh3; rw [ES.out] at ho3; have B3 := Lib.hid (grown_trans hg3 S2.out B2.out); have T3 : Hid (Ov14 w3 w.heap.size _ (offsV salt L k)) := World.ownsRow.kept T2.out hg3 (apart14 T2.out S2.out).1; obtain ⟨A3, c3, hv3, -, -, -⟩ := ho3.rd; rw [show (framesR salt (L.take (k + 1))).length = offR salt L (k + 1) from rfl] at hv3; subst hv3; have O3 := Lib.hid ho3; clear ho3 hg3 hh3 x0 x1)
          | fail)
        have Q1 := Lib.hid (row1_14 w3 (u := .int .i64 (offR salt L (k + 1) : Int)) (t := 3))
        have Q2 : Hid ((offsV salt L k).length ≤ 1000000) := by show _ ≤ _; rw [offsV_len]; have := HN.out; omega
        have Q3 := Lib.hid (T3.out.alloc (.cells #[.int .i64 (offR salt L (k + 1) : Int)] 3))
        have Q5 : Hid (Below w.heap.size w (w3.alloc (.cells #[.int .i64 (offR salt L (k + 1) : Int)] 3))) := B3.out.alloc B3.out.size _
        have Q4 := Lib.hid Q5.out.size
        have Q6 := Lib.hid (O3.out.alloc (.cells #[.int .i64 (offR salt L (k + 1) : Int)] 3))
        go_wp2_with (first
          | (at_builtin; refine wpList_app14 rfl (.tmp 50) (.tmp 53) rfl w.heap.size _ (offsV salt L k) rfl Q3.out w3.heap.size 1 (offR salt L (k + 1) : Int) rfl Q1.out Q2.out Q4.out ?_; intro v4 w4 ho4 hg4; rw [← offsV_succ] at ho4; have B4 := Lib.hid (grown_trans14 hg4 Q3.out Q5.out); have O4 : Hid (Ob w4 w.heap.size 5 _ (framesR salt (L.take (k + 1)))) := Q6.out.kept hg4 (apart14 Q3.out Q6.out).2; have T4 := Lib.hid ho4; clear ho4 hg4)
          | fail)
        go_roundw
        case rel =>
          refine ⟨k + 1, rfl, by go_num, by omega, ⟨O4.out, T4.out, B4.out⟩, fun q hq => ?_⟩
          rw [List.take_add_one, HRK.out] at hq
          rcases List.mem_append.1 hq with hq | hq
          · exact HO.out q hq
          · obtain rfl : q = r := by simpa using hq
            exact ⟨HRK2.out, by rw [HDN.out]; exact H3.out⟩
        case measure => simp [intOf]; omega
    · have hkn : n = k := by omega
      subst hkn
      obtain ⟨wq, hwq⟩ : ∃ wq, wq = wr := ⟨_, rfl⟩
      subst hwq
      have TK : L.take n = L := List.take_of_length_le (by rw [HLN.out]; exact Nat.le_refl _)
      rw [TK] at HS HO R7
      have hok : ∀ r ∈ L, rokR r = true := fun r hr => (HO.out r hr).1
      have hsm : ∀ r ∈ L, r.dat.length ≤ 300 := fun r hr => (HO.out r hr).2
      have HOKS := Lib.hid hok
      have HRW : Hid (RwC w w.heap.size A n L) := HR.out.rw hsm
      obtain ⟨N, hN⟩ : ∃ N, N = offR salt L n := ⟨_, rfl⟩
      have hN2 : N = (framesR salt L).length := by rw [hN]; exact offR_all salt L n (by rw [HLN.out]; exact Nat.le_refl _)
      have hN3 : N ≤ 9210 := by rw [hN]; exact offR_bd salt L n hsm (by rw [HLN.out]; exact HN.out)
      rw [← hN] at HS R7 HC7 ⊢
      have HN9 := Lib.hid hN3
      have HNE := Lib.hid hN
      obtain ⟨b8, rfl, hb8, hb8', hc8⟩ := HX8.out (by omega)
      have K8 : Hid (∀ W, Below wq.heap.size wq W → ∀ j, j ≤ n → W.cell? ⟨b8, j, none⟩ = some (.int .i64 (offR salt L j : Int))) := fun W hW j hj => (hW.cell (p := ⟨b8, j, none⟩) hb8').trans (hc8 j _ (offsV_at salt L hj))
      have BR := Lib.hid HS.out.2.2
      have CS := Lib.hid (cscan_any X salt A7 N c7 _ (framesR salt L) wq (LA.out wq HS.out.2.2) HSL.out R7.out (Nat.le_refl _) (by omega) HC7.out HM7.out)
      unfold ScnR at CS
      rw [scan_whole salt L hok, ← hN2] at CS
      have hlt0 : ¬ (n : Int) < (n : Int) := by omega
      clear hok hsm hN hN2 hN3 hb8 hb8' hc8 HX8 TK HO HS HOK hk hlt OB0 B0
      go_upto_region 14 with (first
        | (go_at_call 15; refine CS.out.mono ?_; rintro e w2 ⟨hb2, v2, q2, rfl, hs2, hq2⟩; have D2 := Lib.hid hb2; have S2 := Lib.hid hs2; have Q2 := Lib.hid hq2; clear hb2 hs2 hq2)
        | fail)
      have B2 : Hid (Below w.heap.size w w2) := BR.out.trans (D2.out.mono BR.out.size)
      obtain ⟨A2, c2, rfl, -, hw2⟩ := S2.out.rw
      have e2 : q2.length = n := by rw [← HLN.out, ← Q2.out, List.length_map]
      rw [Q2.out, e2] at hw2
      rw [e2]
      have CM := Lib.hid (rsameR_any A2 A n c2 n c w2.heap.size L L w2 hw2 ((HRW.out.below B2.out).more B2.out.size) (Nat.le_refl _) (by have := HN.out; omega))
      clear hw2 e2 S2 Q2 CS
      have SMA : Hid (∀ rb : Bool, (rb = true ↔ L = L) → rb = true) := fun rb h => h.2 rfl
      by_cases h0 : cut < 0
      case pos =>
        have h0d : decide (cut < 0) = true := decide_eq_true h0
        go_wp2_with (first
          | (go_at_call 17; refine CM.out.mono ?_; rintro e w3 ⟨rb, rfl, hrb, hb3⟩; obtain rfl : rb = true := (by simpa using hrb); have D3 := Lib.hid (D2.out.trans (hb3.mono D2.out.size)); have B3 := Lib.hid (B2.out.trans (hb3.mono B2.out.size)); clear hrb hb3)
          | fail)
        refine (HH.out w3 B3.out).mono ?_
        rintro e wh ⟨rfl, hbh⟩
        have BH := Lib.hid (B3.out.trans (hbh.mono B3.out.size))
        clear hbh
        go_wp2_with fail
        go_ret
        exact ⟨rfl, BH.out⟩
      have h0d : decide (cut < 0) = false := decide_eq_false h0
      by_cases h9 : (N : Int) < cut
      case pos =>
        have h9d : decide ((N : Int) < cut) = true := decide_eq_true h9
        go_wp2_with (first
          | (go_at_call 17; refine CM.out.mono ?_; rintro e w3 ⟨rb, rfl, hrb, hb3⟩; obtain rfl : rb = true := (by simpa using hrb); have D3 := Lib.hid (D2.out.trans (hb3.mono D2.out.size)); have B3 := Lib.hid (B2.out.trans (hb3.mono B2.out.size)); clear hrb hb3)
          | fail)
        refine (HH.out w3 B3.out).mono ?_
        rintro e wh ⟨rfl, hbh⟩
        have BH := Lib.hid (B3.out.trans (hbh.mono B3.out.size))
        clear hbh
        go_wp2_with fail
        go_ret
        exact ⟨rfl, BH.out⟩
      have h9d : decide ((N : Int) < cut) = false := decide_eq_false h9
      obtain ⟨C, rfl⟩ : ∃ C : Nat, cut = (C : Int) := ⟨cut.toNat, by omega⟩
      have hCN : C ≤ N := by omega
      have HCN := Lib.hid hCN
      have h9i : ¬ (N : Int) < (C : Int) := h9
      have h0i : ¬ (C : Int) < 0 := h0
      clear h0 h9 hCN
      go_upto_region 18 with (first
        | (go_at_call 17; refine CM.out.mono ?_; rintro e w3 ⟨rb, rfl, hrb, hb3⟩; obtain rfl : rb = true := (by simpa using hrb); have D3 := Lib.hid (D2.out.trans (hb3.mono D2.out.size)); have B3 := Lib.hid (B2.out.trans (hb3.mono B2.out.size)); clear hrb hb3)
        | fail)
      clear h9i h0i h0d h9d CM D2 B2
      go_wp2_with fail
      go_loopw [14] (fun v14 wl => ∃ j : Nat, v14 = .int .i64 (j : Int) ∧ j ≤ n ∧ Hid (offR salt L j ≤ C) ∧ Hid (Below w3.heap.size w3 wl)) (fun v14 _ => n - (intOf v14).toNat)
      case atStart => exact ⟨0, rfl, Nat.zero_le _, Nat.zero_le _, Below.refl _ _⟩
      case round =>
        obtain ⟨j, rfl, hj, HJ, HW⟩ := hrel
        have w91 : IntKind.i64.wrap ((j : Int) + 1) = (j : Int) + 1 := by rw [IntKind.wrap_i64]; have := HN.out; omega
        have BQ : Hid (Below wq.heap.size wq wr) := D3.out.trans (HW.out.mono D3.out.size)
        have BWR : Hid (Below w.heap.size w wr) := B3.out.trans (HW.out.mono B3.out.size)
        by_cases hjn : j < n
        · have d1 : (j : Int) + 1 < (n : Int) + 1 := by omega
          have y1 := K8.out wr BQ.out (j + 1) (by omega)
          by_cases hle : offR salt L (j + 1) ≤ C
          · have hlei : (offR salt L (j + 1) : Int) ≤ (C : Int) := by omega
            have HLE := Lib.hid hle
            have HLX : Hid (offR salt L (j + 1) ≤ C) := hle
            obtain ⟨O1, hO1⟩ : ∃ O1, O1 = offR salt L (j + 1) := ⟨_, rfl⟩
            rw [← hO1] at y1 hlei
            clear hO1 HLE hle
            go_wp2_with fail
            go_roundw
            case rel => exact ⟨j + 1, by go_num, by omega, HLX.out, HW.out⟩
            case measure => simp [intOf]; omega
          · have hlei : ¬ (offR salt L (j + 1) : Int) ≤ (C : Int) := by omega
            have HSC : Hid (scanR salt ((framesR salt L).take C) = (L.take j, offR salt L j)) := scan_cut_at salt L HOKS.out j C HJ.out (.inr ⟨by rw [HLN.out]; exact hjn, by omega⟩)
            have HLE : Hid True := trivial
            obtain ⟨O1, hO1⟩ : ∃ O1, O1 = offR salt L (j + 1) := ⟨_, rfl⟩
            rw [← hO1] at y1 hlei
            clear hO1
            obtain ⟨A9, c9, cut9, hc9, hc92, hr9⟩ := cut_h (P := Tryd.prog) 23 5 Tryd.underlying23 size_u8 c7 R7.out (C : Int) C rfl HCN.out HC7.out
            obtain ⟨c10, cut10, hc10⟩ := cut_hR A n c j hj HNC.out
            have CS := Lib.hid (cscan_any X salt A9 C c9 _ _ wr (LA.out wr BWR.out) HSL.out (hr9.below BQ.out) BQ.out.size (by have := HCN.out; have := HN9.out; omega) hc9 (Nat.le_trans hc92 HM7.out))
            unfold ScnR at CS
            rw [HSC.out] at CS
            have HJN : Hid (j ≤ n) := hj
            clear hr9 hc9 hc92 HSC HLE hle hc10
            go_upto_region 22 with (first
              | (go_at_call 15; refine CS.out.mono ?_; rintro e w5 ⟨hb5, v5, q5, rfl, hs5, hq5⟩; have D5 := Lib.hid (BQ.out.trans (hb5.mono BQ.out.size)); have B5 := Lib.hid (BWR.out.trans (hb5.mono BWR.out.size)); have S5 := Lib.hid hs5; have Q5 := Lib.hid hq5; clear hb5 hs5 hq5)
              | fail)
            obtain ⟨A5, c5, rfl, -, hw5⟩ := S5.out.rw
            have e5 : q5.length = j := by rw [← List.length_map (f := (·.1)), Q5.out, List.length_take, HLN.out]; have := HJN.out; omega
            rw [Q5.out, e5] at hw5
            rw [e5]
            have CM := Lib.hid (rsameR_any A5 A j c5 j c10 w5.heap.size (L.take j) (L.take j) w5 hw5 (((HRW.out.below B5.out).more B5.out.size).take HJN.out) (Nat.le_refl _) (by have := HN.out; have := HJN.out; omega))
            have KY : Hid (∀ W, Below wq.heap.size wq W → W.cell? ⟨b8, j, none⟩ = some (.int .i64 (offR salt L j : Int))) := fun W hW => K8.out W hW j HJN.out
            have d2 : (j : Int) < (n : Int) + 1 := by have := HJN.out; omega
            clear hw5 e5 S5 Q5 CS HRW K8 HJ HOKS HNE
            generalize offR salt L j = OJ at *
            go_wp2_with (first
              | (go_at_call 17; refine CM.out.mono ?_; rintro e w6 ⟨rb, rfl, hrb, hb6⟩; obtain rfl : rb = true := (by simpa using hrb); have B6 := Lib.hid (B5.out.trans (hb6.mono B5.out.size)); have yy := KY.out w6 (D5.out.trans (hb6.mono D5.out.size)); clear hrb hb6)
              | (go_at_call 7; refine (HH.out w6 B6.out).mono ?_; rintro e w7 ⟨rfl, hb7⟩; have B7 := Lib.hid (B6.out.trans (hb7.mono B6.out.size)); clear hb7)
              | fail)
            go_ret
            exact ⟨rfl, B7.out⟩
        · have hjn2 : j = n := by omega
          have d1 : ¬ (j : Int) + 1 < (n : Int) + 1 := by omega
          have HSC : Hid (scanR salt ((framesR salt L).take C) = (L.take j, offR salt L j)) := scan_cut_at salt L HOKS.out j C HJ.out (.inl (by rw [HLN.out]; omega))
          have HLE : Hid True := trivial
          have hle : True := trivial
          clear hjn2
          obtain ⟨A9, c9, cut9, hc9, hc92, hr9⟩ := cut_h (P := Tryd.prog) 23 5 Tryd.underlying23 size_u8 c7 R7.out (C : Int) C rfl HCN.out HC7.out
          obtain ⟨c10, cut10, hc10⟩ := cut_hR A n c j hj HNC.out
          have CS := Lib.hid (cscan_any X salt A9 C c9 _ _ wr (LA.out wr BWR.out) HSL.out (hr9.below BQ.out) BQ.out.size (by have := HCN.out; have := HN9.out; omega) hc9 (Nat.le_trans hc92 HM7.out))
          unfold ScnR at CS
          rw [HSC.out] at CS
          have HJN : Hid (j ≤ n) := hj
          clear hr9 hc9 hc92 HSC HLE hle hc10
          go_upto_region 22 with (first
            | (go_at_call 15; refine CS.out.mono ?_; rintro e w5 ⟨hb5, v5, q5, rfl, hs5, hq5⟩; have D5 := Lib.hid (BQ.out.trans (hb5.mono BQ.out.size)); have B5 := Lib.hid (BWR.out.trans (hb5.mono BWR.out.size)); have S5 := Lib.hid hs5; have Q5 := Lib.hid hq5; clear hb5 hs5 hq5)
            | fail)
          obtain ⟨A5, c5, rfl, -, hw5⟩ := S5.out.rw
          have e5 : q5.length = j := by rw [← List.length_map (f := (·.1)), Q5.out, List.length_take, HLN.out]; have := HJN.out; omega
          rw [Q5.out, e5] at hw5
          rw [e5]
          have CM := Lib.hid (rsameR_any A5 A j c5 j c10 w5.heap.size (L.take j) (L.take j) w5 hw5 (((HRW.out.below B5.out).more B5.out.size).take HJN.out) (Nat.le_refl _) (by have := HN.out; have := HJN.out; omega))
          have KY : Hid (∀ W, Below wq.heap.size wq W → W.cell? ⟨b8, j, none⟩ = some (.int .i64 (offR salt L j : Int))) := fun W hW => K8.out W hW j HJN.out
          have d2 : (j : Int) < (n : Int) + 1 := by have := HJN.out; omega
          clear hw5 e5 S5 Q5 CS HRW K8 HJ HOKS HNE
          generalize offR salt L j = OJ at *
          go_wp2_with (first
            | (go_at_call 17; refine CM.out.mono ?_; rintro e w6 ⟨rb, rfl, hrb, hb6⟩; obtain rfl : rb = true := (by simpa using hrb); have B6 := Lib.hid (B5.out.trans (hb6.mono B5.out.size)); have yy := KY.out w6 (D5.out.trans (hb6.mono D5.out.size)); clear hrb hb6)
            | (go_at_call 7; refine (HH.out w6 B6.out).mono ?_; rintro e w7 ⟨rfl, hb7⟩; have B7 := Lib.hid (B6.out.trans (hb7.mono B6.out.size)); clear hb7)
            | fail)
          go_ret
          exact ⟨rfl, B7.out⟩
end Go.Proofs.YtlkppnghfgiapaaDoor
