/- The code's log: bytes copied into sectors, and flushed. -/
import Derived.Test.YtahgaogmcffglaaDoorJWcD
namespace Go.Proofs.YtahgaogmcffglaaDoor
open Go.RowKit

theorem Cd.fp_two (S : List (List UInt8)) (ws : List (Nat × List UInt8)) (lf : Int) : (∃ l2, (lf = -1 → l2 = -1) ∧ Cd.fp ⟨S, ws, true, lf⟩ = ⟨S, ws, true, l2⟩) ∨ (lf ≠ -1 ∧ ∃ l2, Cd.fp ⟨S, ws, true, lf⟩ = ⟨S, ws, false, l2⟩) := by
  unfold Cd.fp
  split
  · next h => exact .inr ⟨fun e => by have h2 : lf = 0 := h
                                      omega, _, rfl⟩
  · split
    · next h => exact .inl ⟨_, fun e => by have h2 : 0 < lf := h
                                           omega, rfl⟩
    · exact .inl ⟨_, fun e => e, rfl⟩
theorem Cd.write_two (S : List (List UInt8)) (ws : List (Nat × List UInt8)) (lf : Int) (k : Nat) (b : List UInt8) (hk : k < S.length) (hb : b.length = 64) : (∃ l2, (lf = -1 → l2 = -1) ∧ Cd.write ⟨S, ws, true, lf⟩ (k : Int) b = (⟨S, ws ++ [(k, b)], true, l2⟩, 0)) ∨ (lf ≠ -1 ∧ ∃ l2, Cd.write ⟨S, ws, true, lf⟩ (k : Int) b = (⟨S, ws, false, l2⟩, 131)) := by
  unfold Cd.write
  rw [if_neg (by simp), if_neg (by show ¬ ((k : Int) < 0 ∨ (S.length : Int) ≤ (k : Int)); omega), if_neg (by simp [hb])]
  rcases Cd.fp_two S ws lf with ⟨l2, h2, e⟩ | ⟨h2, l2, e⟩ <;> rw [e]
  · exact .inl ⟨l2, h2, by rw [if_neg (by simp), Int.toNat_natCast]⟩
  · exact .inr ⟨h2, l2, by rw [if_pos rfl]⟩
theorem Cd.flush_two (S : List (List UInt8)) (ws : List (Nat × List UInt8)) (lf : Int) : (∃ l2, (lf = -1 → l2 = -1) ∧ Cd.flush ⟨S, ws, true, lf⟩ = (⟨layW S ws, [], true, l2⟩, 0)) ∨ (lf ≠ -1 ∧ ∃ l2, Cd.flush ⟨S, ws, true, lf⟩ = (⟨S, ws, false, l2⟩, 131)) := by
  unfold Cd.flush
  rw [if_neg (by simp)]
  rcases Cd.fp_two S ws lf with ⟨l2, h2, e⟩ | ⟨h2, l2, e⟩ <;> rw [e]
  · exact .inl ⟨l2, h2, by rw [if_neg (by simp)]⟩
  · exact .inr ⟨h2, l2, by rw [if_pos rfl]⟩
/-- What is left of bytes written to sector at and on, of a disk on which nothing waits: all, or power goes, if it may. -/
def FluR (S : List (List UInt8)) (l0 : Int) (at_ : Nat) (l : List UInt8) (r : Cd × Int) : Prop := (∃ lf, (l0 = -1 → lf = -1) ∧ r = (⟨layW S (chunks at_ l), [], true, lf⟩, 0)) ∨ (l0 ≠ -1 ∧ ∃ j lf, r = (⟨S, (chunks at_ l).take j, false, lf⟩, 131))
theorem FluR.of {S : List (List UInt8)} {l0 l1 : Int} {at_ : Nat} {l : List UInt8} {r : Cd × Int} (h : FluR S l1 at_ l r) (h1 : l0 = -1 → l1 = -1) : FluR S l0 at_ l r := by
  rcases h with ⟨lf, h2, rfl⟩ | ⟨h2, j, lf, rfl⟩
  · exact .inl ⟨lf, fun e => h2 (h1 e), rfl⟩
  · exact .inr ⟨fun e => h2 (h1 e), j, lf, rfl⟩
theorem padS_splice (l : List UInt8) : splice ((List.replicate 64 (0 : UInt8)).map bv) 0 (l.map bv) = (padS l).map bv := by
  unfold splice padS
  rw [List.take_zero, List.nil_append, List.map_append, Nat.zero_add, ← List.map_drop, List.length_map, List.drop_replicate]
/-- b[k:], which lies in b's own block. -/
theorem cut_lF {P : Program} {w : World} {B n : Nat} {A : Option Addr} {l : List UInt8} (t e : TypeId) (ht : P.underlying t = some (.slice e)) (hz : ∀ W : World, (sizeOf e).run P W = .ok 1 W) (c : Nat) (h : Rd w B A n l) (k : Nat) (hk : k ≤ n) (hc : n ≤ c) :
    ∃ A' c', (∀ W : World, (Instr.slice t (.slice A n c) (some (.int .i64 (k : Int))) none none).run P W = .ok (.slice A' (n - k) c') W) ∧ n - k ≤ c' ∧ Rd w B A' (n - k) (l.drop k) ∧ ∀ ad, A' = some ad → ∃ a0, A = some a0 ∧ ad.block = a0.block := by
  by_cases hck : c = k
  · refine ⟨A, c - k, fun W => ?_, by omega, ?_, fun ad had => ⟨ad, had, rfl⟩⟩
    · subst hck
      go_simp
    · have hl := h.1
      have e : n - k = 0 := by omega
      rw [e, List.drop_eq_nil_of_le (by omega)]
      exact Rd.nil_
  · refine ⟨A.map (·.add k), c - k, fun W => ?_, by omega, h.cut, fun ad had => ?_⟩
    · go_simp
    · obtain ⟨a0, h0, rfl⟩ := Option.map_eq_some_iff.1 had
      exact ⟨a0, h0, by unfold Addr.add; split <;> rfl⟩
/-- What lies in no block of F reads the same behind two ways from one world. -/
theorem Rd.frF {F : Nat → Prop} {w wr w8 : World} {A : Option Addr} {n : Nat} {l : List UInt8} (h : Rd wr w.heap.size A n l) (hf8 : Fr F w w8) (hf : Fr F w wr) (hn : ∀ ad, A = some ad → ¬ F ad.block) : Rd w8 w.heap.size A n l :=
  ⟨h.1, fun h0 => by
    obtain ⟨b, o, e, hb, hc⟩ := h.2 h0
    have h1 := hn _ e
    exact ⟨b, o, e, hb, fun i hi => (World.cell?_of_block (a := ⟨b, o + i, none⟩) ((hf8.block b hb h1).trans (hf.block b hb h1).symm)).trans (hc i hi)⟩⟩
theorem CDk.at_wide {w : World} {F : Nat → Prop} {B g : Nat} {D : Cd} (h : CDk w F B g D) {n : Nat} (hn : w.heap.size ≤ n) : ¬ F n := fun hk => by have := (h.fit n hk).2; omega
set_option maxRecDepth 100000 in
set_option maxHeartbeats 8000000 in
theorem wflush_any (w : World) {F : Nat → Prop} {B g : Nat} {S : List (List UInt8)} {lf : Int} (at_ n c : Nat) (A : Option Addr) (l : List UInt8) (h : CDk w F B g ⟨S, [], true, lf⟩) (hr : Rd w w.heap.size A n l) (hc : n ≤ c) (hnf : ∀ ad, A = some ad → ¬ F ad.block) (hin : at_ + secN n ≤ S.length) :
    Calls Tryd.prog 61 #[.pointer (some ⟨g, 0, none⟩), .int .i64 (at_ : Int), .slice A n c] w fun e w' => ∃ r, FluR S lf at_ l r ∧ CWriteR w F B g r e w' := by
  have H := Lib.hid h
  have HR := Lib.hid hr
  have HNF := Lib.hid hnf
  have HIN := Lib.hid hin
  have HL : Hid (l.length = n) := hr.1
  have HC := Lib.hid hc
  have HFW : Hid (S.length ≤ 65536) := h.few
  clear h hr hc hnf hin
  go_enter Tryd.func61, Tryd.ntmps61
  go_wp2_with fail
  go_loopw [1, 2, 7, 8, 9] (fun v1 v2 v7 v8 v9 wr => ∃ (i k K : Nat) (A' : Option Addr) (c' : Nat) (F' : Nat → Prop) (lf' : Int), Hid (k = at_ + i) ∧ v1 = .int .i64 (k : Int) ∧ v2 = .slice A' K c' ∧ Hid (i ≤ secN n) ∧ Hid (K = n - 64 * i ∧ K ≤ c') ∧ Hid (Rd wr w.heap.size A' K (l.drop (64 * i))) ∧ Hid (∀ ad, A' = some ad → ¬ F ad.block) ∧ Hid (CDk wr F' B g ⟨S, (chunks at_ l).take i, true, lf'⟩) ∧ Hid (lf = -1 → lf' = -1) ∧ Hid (Fr F w wr ∧ Grew w F F')) (fun _ v2 _ _ _ _ => slN v2)
  case atStart => exact ⟨0, at_, n, A, c, F, lf, rfl, rfl, rfl, Nat.zero_le _, ⟨by omega, HC.out⟩, by rw [Nat.mul_zero, List.drop_zero]; exact HR.out, HNF.out, H.out, fun e => e, Fr.refl _ _, Grew.refl _ _⟩
  case round =>
    obtain ⟨i, k, K, A', c', F', lf', HKA, rfl, rfl, HI, HK, HRd, HNf, HD, HLF, HF⟩ := hrel
    by_cases hlt : 0 < K
    · have h0i : (0 : Int) < (K : Int) := by omega
      have HIS : Hid (i < secN n) := by show _ < _; have := HK.out.1; unfold secN; omega
      have HKS : Hid (k < S.length) := by show _ < _; have := HIN.out; have := HIS.out; have := HKA.out; omega
      obtain ⟨b, hb⟩ : ∃ b, b = (l.drop (64 * i)).take 64 := ⟨_, rfl⟩
      have HB := Lib.hid hb
      have hbl : b.length = min 64 K := by rw [hb, List.length_take, HRd.out.1]
      have HBL := Lib.hid hbl
      obtain ⟨m, hm⟩ : ∃ m, m = min 64 K := ⟨_, rfl⟩
      have HM := Lib.hid hm
      have HBM : Hid ((b.map bv).length = m) := by show _ = _; rw [List.length_map, hbl, hm]
      have LR : Hid ((List.replicate 64 (0 : UInt8)).length = 64) := by show _ = _; simp
      have L64 : Hid (((List.replicate 64 (0 : UInt8)).map bv).length = 64) := by show _ = _; simp
      obtain ⟨b0, o0, rfl, hb0, hcell⟩ := HRd.out.2 hlt
      obtain ⟨ad, had, hsrc⟩ := Rd.src13 HRd.out hlt
      obtain rfl := Option.some.inj had
      have SRC : Hid (∀ W, Below wr.heap.size wr W → ∀ j u, (b.map bv)[j]? = some u → W.cell? ((⟨b0, o0, none⟩ : Addr).add j) = some u) := fun W hW j u hj => by
        refine (hW.cell (p := (⟨b0, o0, none⟩ : Addr).add j) (by rw [add_mk]; exact Nat.lt_of_lt_of_le hb0 HF.out.1.size)).trans (hsrc j u ?_)
        have hj64 : j < m := by rw [← HBM.out]; exact (List.getElem?_eq_some_iff.1 hj).1
        rw [HB.out, List.map_take, List.getElem?_take_of_lt (by have := HM.out; omega)] at hj
        exact hj
      have w1 : IntKind.i64.wrap ((k : Int) + 1) = (k : Int) + 1 := by rw [IntKind.wrap_i64]; have := HFW.out; have := HKS.out; omega
      clear hb hbl hm hcell hsrc had hb0
      go_wp2_with (first
        | (refine wpList_makeB13 rfl _ _ 33 rfl 5 Tryd.underlying33 info_u8 64 64 64 64 rfl rfl rfl rfl (Nat.le_refl _) (by decide) ?_; intro w5 ho5 hb5; have G5 := Lib.hid (ob_whole13 ho5 LR.out); have B5 := Lib.hid hb5; clear ho5 hb5)
        | (refine wpList_copy_splice rfl (.tmp 14) (.tmp 15) 33 33 rfl 5 Tryd.underlying33 (by kernel_rfl) (some ⟨wr.heap.size, 0, none⟩) (some ⟨b0, o0, none⟩) 64 64 K c' rfl rfl wr.heap.size 0 ((List.replicate 64 (0 : UInt8)).map bv) 5 G5.out (b.map bv) (by rw [HBM.out, HM.out]; exact Nat.min_comm _ _) (fun _ => ⟨rfl, _, rfl, SRC.out _ B5.out⟩) (by rw [HBM.out, L64.out]; have := HM.out; omega) (bv_one _) wr.heap.size wr B5.out (Nat.le_refl _) ?_; intro w6 hw6 hb6; have B6 := Lib.hid hb6; have G6 := Lib.hid hw6.out; clear hb6 hw6)
        | fail)
      have O6 : Hid (Ob w6 wr.heap.size 5 (.slice (some ⟨wr.heap.size, 0, none⟩) 64 64) (padS b)) := by
        have g6 := G6.out
        rw [padS_splice] at g6
        exact ob_of_whole13 g6 (Nat.le_refl _) (padS_len (by rw [HBL.out]; omega)) (by decide)
      have HCH : Hid (chunk at_ l i = (k, padS b)) := by
        show _ = _
        unfold chunk
        rw [HB.out, HKA.out]
      have HWL : Hid (((chunks at_ l).take i).length ≤ 1000000) := by
        show _ ≤ _
        rw [List.length_take, chunks_len, HL.out]
        have := HFW.out
        have := HIN.out
        omega
      have hHA : ∀ ad, some (⟨wr.heap.size, 0, none⟩ : Addr) = some ad → ¬ F' ad.block := fun ad e => by
        obtain rfl := Option.some.inj e
        exact HD.out.at_wide (Nat.le_refl _)
      have CW := cwrite_any (c := 64) w6 (k : Int) (HD.out.below B6.out) O6.out.rd_.2.1 (Nat.le_refl _) hHA HWL.out
      have HFB : Hid (Fr F w w6) := HF.out.1.trans (Fr.of_below B6.out) HF.out.2
      rcases Cd.write_two S ((chunks at_ l).take i) lf' k (padS b) HKS.out (padS_len (by rw [HBL.out]; omega)) with ⟨l2, hl2, hw2⟩ | ⟨hl2, l2, hw2⟩
      all_goals have HL2 := Lib.hid hl2
      all_goals clear hl2
      · rw [hw2] at CW
        have C2 := Lib.hid CW
        obtain ⟨A7, c7, cut7, hc7, hr7, hb7⟩ := cut_lF (P := Tryd.prog) 33 5 Tryd.underlying33 size_u8 c' HRd.out b.length (by have := HBL.out; omega) HK.out.2
        have R7 := Lib.hid hr7
        have N7 : Hid (∀ ad, A7 = some ad → ¬ F ad.block) := fun ad e hf => by
          obtain ⟨a0, e0, hb⟩ := hb7 ad e
          exact HNf.out a0 e0 (hb ▸ hf)
        have C7 := Lib.hid hc7
        clear hw2 CW hHA hr7 hb7 hc7
        unfold CWriteR at C2
        go_wp2_with (first
          | (go_at_call 12; refine C2.out.mono ?_; rintro e w8 ⟨F8, hd8, rfl, hf8, hg8⟩; have D8 := Lib.hid hd8; have F8' := Lib.hid (And.intro hf8 hg8); clear hd8 hf8 hg8)
          | fail)
        go_roundw
        case rel =>
          refine ⟨i + 1, k + 1, K - b.length, A7, c7, F8, l2, by show _ = _; have := HKA.out; omega, by simp, rfl, HIS.out, ⟨by have := HBL.out; have := HK.out.1; omega, C7.out⟩, ?_, N7.out, ?_, fun e => HL2.out (HLF.out e), HFB.out.trans F8'.out.1 HF.out.2, HF.out.2.trans F8'.out.2 HFB.out.size⟩
          · show Rd _ _ _ _ _
            have e : (l.drop (64 * i)).drop b.length = l.drop (64 * (i + 1)) := by
              have h1 := HBL.out
              have h2 := HK.out.1
              have h3 := HL.out
              rw [List.drop_drop]
              rcases Nat.lt_or_ge K 64 with h4 | h4
              · rw [List.drop_eq_nil_of_le (by omega), List.drop_eq_nil_of_le (by omega)]
              · congr 1
                omega
            rw [← e]
            exact Rd.frF R7.out (HFB.out.trans F8'.out.1 HF.out.2) HF.out.1 N7.out
          · show CDk _ _ _ _ _
            rw [chunks_take _ _ _ (by rw [HL.out]; exact HIS.out), HCH.out]
            exact D8.out
        case measure => show K - b.length < K; have := HBL.out; omega
      · rw [hw2] at CW
        have C2 := Lib.hid CW
        clear hw2 CW hHA
        unfold CWriteR at C2
        go_wp2_with (first
          | (go_at_call 12; refine C2.out.mono ?_; rintro e w8 ⟨F8, hd8, rfl, hf8, hg8⟩; have D8 := Lib.hid hd8; have F8' := Lib.hid (And.intro hf8 hg8); clear hd8 hf8 hg8)
          | fail)
        go_ret
        exact ⟨_, .inr ⟨fun e => HL2.out (HLF.out e), i, l2, rfl⟩, F8, D8.out, rfl, HFB.out.trans F8'.out.1 HF.out.2, HF.out.2.trans F8'.out.2 HFB.out.size⟩
    · have h0i : ¬ (0 : Int) < (K : Int) := by omega
      have HIE : Hid ((chunks at_ l).take i = chunks at_ l) := List.take_of_length_le (by rw [chunks_len, HL.out]; have := HK.out.1; unfold secN; omega)
      have hd := HD.out
      rw [HIE.out] at hd
      have CF := cflush_any wr hd (by show (chunks at_ l).length ≤ _; rw [chunks_len, HL.out]; have := HFW.out; have := HIN.out; omega)
      rcases Cd.flush_two S (chunks at_ l) lf' with ⟨l2, hl2, hw2⟩ | ⟨hl2, l2, hw2⟩
      all_goals have HL2 := Lib.hid hl2
      all_goals clear hl2
      · rw [hw2] at CF
        have C2 := Lib.hid CF
        clear hw2 CF hd
        unfold CWriteR at C2
        go_wp2_with (first
          | (go_at_call 13; refine C2.out.mono ?_; rintro e w8 ⟨F8, hd8, rfl, hf8, hg8⟩; have D8 := Lib.hid hd8; have F8' := Lib.hid (And.intro hf8 hg8); clear hd8 hf8 hg8)
          | fail)
        go_ret
        exact ⟨_, .inl ⟨l2, fun e => HL2.out (HLF.out e), rfl⟩, F8, D8.out, rfl, HF.out.1.trans F8'.out.1 HF.out.2, HF.out.2.trans F8'.out.2 HF.out.1.size⟩
      · rw [hw2] at CF
        have C2 := Lib.hid CF
        clear hw2 CF hd
        unfold CWriteR at C2
        go_wp2_with (first
          | (go_at_call 13; refine C2.out.mono ?_; rintro e w8 ⟨F8, hd8, rfl, hf8, hg8⟩; have D8 := Lib.hid hd8; have F8' := Lib.hid (And.intro hf8 hg8); clear hd8 hf8 hg8)
          | fail)
        go_ret
        exact ⟨_, .inr ⟨fun e => HL2.out (HLF.out e), secN n, l2, by rw [List.take_of_length_le (by rw [chunks_len, HL.out]; exact Nat.le_refl _)]⟩, F8, D8.out, rfl, HF.out.1.trans F8'.out.1 HF.out.2, HF.out.2.trans F8'.out.2 HF.out.1.size⟩
end Go.Proofs.YtahgaogmcffglaaDoor
