/- Logs, plain: what is left of lay, whatever a stop leaves. -/
import Derived.Test.YtahgaogmcffglaaDoorJWcM
namespace Go.Proofs.YtahgaogmcffglaaDoor
open Go.RowKit

theorem framesR_app15 (salt : Nat) (m : List Rcd) : ∀ l : List Rcd, framesR salt (l ++ m) = framesR salt l ++ framesR salt m
  | [] => by simp [framesR]
  | r :: l => by rw [List.cons_append, framesR, framesR_app15 salt m l, framesR, List.append_assoc]
/-- Other sectors are as they were. -/
structure OutZ (a n : Nat) (Z Z' : List (List UInt8)) : Prop where
  len : Z'.length = Z.length
  wide : ∀ s ∈ Z', s.length = 64
  out : ∀ i, i < a ∨ a + n ≤ i → Z'[i]? = Z[i]?
theorem OutZ.trans {a n : Nat} {Z Z' Z'' : List (List UInt8)} (h : OutZ a n Z Z') (h' : OutZ a n Z' Z'') : OutZ a n Z Z'' := ⟨h'.len.trans h.len, h'.wide, fun i hi => (h'.out i hi).trans (h.out i hi)⟩
theorem OutZ.refl {a n : Nat} {Z : List (List UInt8)} (h : ∀ s ∈ Z, s.length = 64) : OutZ a n Z Z := ⟨rfl, h, fun _ _ => rfl⟩
/-- What a log's next records are laid behind. -/
def Nxt (t0 len0 : Nat) (L0 : List Rcd) (t c0 : Nat) (Lo : List Rcd) : Prop := (t = t0 ∧ c0 = len0 ∧ Lo = L0) ∨ (t % 2 ≠ t0 % 2 ∧ c0 = 0 ∧ Lo = [])
section
variable {a n t0 len0 : Nat} {Z : List (List UInt8)} {L0 : List Rcd} {t c0 : Nat} {Lo l : List Rcd}
theorem layB_len (hw : ∀ s ∈ Z, s.length = 64) (hn : 1 ≤ n) (hin : a + n ≤ Z.length) (hf : c0 + sumL l ≤ hlf n * 64) : (layB Z a n t c0 l).length = c0 % 64 + sumL l := by
  have h1 : atW a n t c0 * 64 + c0 % 64 ≤ Z.length * 64 := (lay_nums (s := sumL l) (stW_in a n t).2 (hlf_two hn) hin hf).1
  unfold layB
  rw [List.length_append, rdZ_len hw _ _ h1, sumL_frames]
theorem layB_old (hw : ∀ s ∈ Z, s.length = 64) (hn : 1 ≤ n) (hin : a + n ≤ Z.length) (hf : c0 + sumL l ≤ hlf n * 64) (k : Nat) (hk : k < c0 % 64) : (layB Z a n t c0 l)[k]? = (Z[atW a n t c0]?).bind (·[k]?) := by
  have h1 : atW a n t c0 * 64 + c0 % 64 ≤ Z.length * 64 := (lay_nums (s := sumL l) (stW_in a n t).2 (hlf_two hn) hin hf).1
  unfold layB
  rw [List.getElem?_append_left (by rw [rdZ_len hw _ _ h1]; exact hk), rdZ_at hw _ _ _ hk, show k / 64 = 0 by omega, show k % 64 = k by omega, Nat.add_zero]
/-- Sectors that only the row to come was laid into have the old log. -/
theorem InZ.kp {Z' : List (List UInt8)} (h : InZ a n Z t0 len0 L0) (hN : Nxt t0 len0 L0 t c0 Lo) (hw : ∀ s ∈ Z, s.length = 64) (hn : 1 ≤ n) (hin : a + n ≤ Z.length) (hf : c0 + sumL l ≤ hlf n * 64) (hk : Kp Z Z' (atW a n t c0) (secN (c0 % 64 + sumL l)) (c0 % 64)) : InZ a n Z' t0 len0 L0 := by
  have h2 := hlf_two hn
  have s1 := stW_in a n t
  have s0 := stW_in a n t0
  have hfit := h.fit
  refine h.same ?_ ?_
  · refine hk.rd hw (by omega) a 32 (by omega) (.inl ?_)
    unfold atW
    omega
  · refine hk.rd hw (by omega) _ _ (by omega) ?_
    rcases hN with ⟨rfl, rfl, rfl⟩ | ⟨hp, rfl, rfl⟩
    · refine .inl ?_
      unfold atW
      omega
    · rcases stW_next a n t t0 hp with h3 | h3
      · refine .inr ?_
        unfold atW secN
        omega
      · refine .inl ?_
        unfold atW
        omega
theorem out_kp {Z' : List (List UInt8)} (hn : 1 ≤ n) (hf : c0 + sumL l ≤ hlf n * 64) (hk : Kp Z Z' (atW a n t c0) (secN (c0 % 64 + sumL l)) (c0 % 64)) : OutZ a n Z Z' := by
  have h2 := hlf_two hn
  have s1 := stW_in a n t
  refine ⟨hk.len, hk.wide, fun i hi => hk.out i ?_⟩
  rcases hi with hi | hi
  · refine .inl ?_
    unfold atW
    omega
  · refine .inr ?_
    unfold atW secN
    omega
/-- What was laid whole reads as all records. -/
theorem lay_new (h : InZ a n Z t0 len0 L0) (hN : Nxt t0 len0 L0 t c0 Lo) (hw : ∀ s ∈ Z, s.length = 64) (hn : 1 ≤ n) (hin : a + n ≤ Z.length) (hf : c0 + sumL l ≤ hlf n * 64) : rdZ (layW Z (chunks (atW a n t c0) (layB Z a n t c0 l))) (stW a n t) (c0 + sumL l) = framesR t (Lo ++ l) := by
  have h2 := hlf_two hn
  have s1 := stW_in a n t
  obtain ⟨n1, n2⟩ : atW a n t c0 * 64 + c0 % 64 ≤ Z.length * 64 ∧ atW a n t c0 + secN (c0 % 64 + sumL l) ≤ Z.length := lay_nums (s := sumL l) s1.2 h2 hin hf
  have hbl := layB_len (t := t) hw hn hin hf
  have hold : rdZ Z (stW a n t) c0 = framesR t Lo := by
    rcases hN with ⟨rfl, rfl, rfl⟩ | ⟨-, rfl, rfl⟩
    · exact h.by_
    · rw [rdZ_zero]; rfl
  have hlo : sumL Lo = c0 := by
    rcases hN with ⟨rfl, rfl, rfl⟩ | ⟨-, rfl, rfl⟩
    · exact h.lenL.symm
    · rfl
  have hkp := kp_lay hw (atW a n t c0) (layB Z a n t c0 l) (c0 % 64) (by omega) (by rw [hbl]; omega) (fun k hk => layB_old hw hn hin hf k hk)
  refine rdZ_ext hkp.wide _ _ _ (by rw [hkp.len]; omega) (by rw [sumL_frames, sumL_app, hlo]) fun k hk => ?_
  rw [framesR_app15, ← hold]
  have hrl : (rdZ Z (stW a n t) c0).length = c0 := rdZ_len hw _ _ (by omega)
  by_cases hk1 : k / 64 < c0 / 64
  · rw [hkp.out _ (.inl (by unfold atW; omega)), List.getElem?_append_left (by rw [hrl]; omega), rdZ_at hw _ _ _ (by omega)]
  · have e1 : stW a n t + k / 64 = atW a n t c0 + (k - 64 * (c0 / 64)) / 64 := by unfold atW; omega
    have e2 : k % 64 = (k - 64 * (c0 / 64)) % 64 := by omega
    rw [e1, e2, lay_rd _ _ (by rw [hbl]; exact n2) _ (by rw [hbl]; omega)]
    by_cases hk2 : k < c0
    · rw [layB_old hw hn hin hf _ (by omega), List.getElem?_append_left (by rw [hrl]; exact hk2), rdZ_at hw _ _ _ hk2, show stW a n t + k / 64 = atW a n t c0 by unfold atW; omega, show k - 64 * (c0 / 64) = k % 64 by omega]
    · rw [List.getElem?_append_right (by rw [hrl]; omega), hrl]
      unfold layB
      rw [List.getElem?_append_right (by rw [rdZ_len hw _ _ n1]; omega), rdZ_len hw _ _ n1]
      congr 1
      omega
end
theorem rdZ_set (Z : List (List UInt8)) (s : List UInt8) {a st : Nat} (h : a < st) (n : Nat) : rdZ (Z.set a s) st n = rdZ Z st n := by
  unfold rdZ
  rw [List.drop_set_of_lt h]
theorem set_wide {Z : List (List UInt8)} (hw : ∀ s ∈ Z, s.length = 64) {s : List UInt8} (hs : s.length = 64) (a : Nat) : ∀ x ∈ Z.set a s, x.length = 64 := fun x hx => by
  rcases List.mem_or_eq_of_mem_set hx with h | h
  · exact hw x h
  · rw [h]; exact hs
/-- A head sector laid anew, whose first half is the old one's or the new one's. -/
theorem head_two {a n t0 len0 t c1 : Nat} {Z : List (List UInt8)} {L0 L1 : List Rcd} {s0 s : List UInt8} (hw : ∀ s ∈ Z, s.length = 64) (hn : 1 ≤ n) (hn2 : n ≤ 65536) (h0 : InZ a n Z t0 len0 L0) (h1 : rdZ Z (stW a n t) c1 = framesR t L1) (hok : ∀ r ∈ L1, rokR r = true) (hl : c1 = sumL L1) (hf : c1 ≤ hlf n * 64) (ht : t < 18446744073709551616)
    (hs0 : Z[a]? = some s0) (hs : s.length = 64) (h : s.take 32 = s0.take 32 ∨ s.take 32 = (padS (hdF a n t c1)).take 32) : (InZ a n (Z.set a s) t0 len0 L0 ∨ InZ a n (Z.set a s) t c1 L1) ∧ (s.take 32 = (padS (hdF a n t c1)).take 32 → InZ a n (Z.set a s) t c1 L1) ∧ OutZ a n Z (Z.set a s) := by
  have ha : a < Z.length := (List.getElem?_eq_some_iff.1 hs0).1
  have hws := set_wide hw hs a
  have hrd : rdZ (Z.set a s) a 32 = s.take 32 := rdZ_head hws (by rw [List.getElem?_set_self ha])
  have hold : s.take 32 = s0.take 32 → InZ a n (Z.set a s) t0 len0 L0 := fun e => h0.same (by rw [hrd, e, rdZ_head hw hs0]) (rdZ_set _ _ (by have := (stW_in a n t0).1; omega) _)
  have hnew : s.take 32 = (padS (hdF a n t c1)).take 32 → InZ a n (Z.set a s) t c1 L1 := fun e => by
    refine ⟨?_, by rw [rdZ_set _ _ (by have := (stW_in a n t).1; omega), h1], hok, hl, hf, ht⟩
    have e2 : (padS (hdF a n t c1)).take 32 = hdF a n t c1 ++ List.replicate 9 0 := by
      unfold padS
      rw [List.take_append, hdF_len, List.take_of_length_le (by rw [hdF_len]; decide), List.take_replicate]
      rfl
    unfold hdW
    rw [hrd, e, e2, rhW_hd a n t c1 _ ht hf (by have : hlf n ≤ 32768 := (by unfold hlf; omega)
                                                omega)]
    rfl
  refine ⟨?_, hnew, by simp, hws, fun i hi => ?_⟩
  · rcases h with h | h
    · exact .inl (hold h)
    · exact .inr (hnew h)
  · rw [List.getElem?_set_ne (by omega)]
/-- What is left of lay: the new log, on a disk on which nothing waits; or no power, and whatever a stop leaves is the old log or the new one. -/
def LaidR (l0 : Int) (a n t0 len0 : Nat) (L0 : List Rcd) (t c1 : Nat) (L1 : List Rcd) (Z : List (List UInt8)) (r : Cd × Int) : Prop :=
  (∃ Z' lf, (l0 = -1 → lf = -1) ∧ r = (⟨Z', [], true, lf⟩, 0) ∧ InZ a n Z' t c1 L1 ∧ OutZ a n Z Z') ∨
  (l0 ≠ -1 ∧ ∃ S ws lf, r = (⟨S, ws, false, lf⟩, 131) ∧ ∀ ks, (InZ a n (tornW S ws ks) t0 len0 L0 ∨ InZ a n (tornW S ws ks) t c1 L1) ∧ OutZ a n Z (tornW S ws ks))
theorem laid_of {l0 : Int} {a n t0 len0 : Nat} {Z : List (List UInt8)} {L0 : List Rcd} {t c0 : Nat} {Lo l : List Rcd} {r : Cd × Int} (hr : LayR Z l0 a n t c0 l r) (h : InZ a n Z t0 len0 L0) (hN : Nxt t0 len0 L0 t c0 Lo) (hw : ∀ s ∈ Z, s.length = 64) (hn : 1 ≤ n) (hn2 : n ≤ 65536) (hin : a + n ≤ Z.length) (hf : c0 + sumL l ≤ hlf n * 64) (hok : ∀ r ∈ l, rokR r = true) (ht : t < 18446744073709551616) : LaidR l0 a n t0 len0 L0 t (c0 + sumL l) (Lo ++ l) Z r := by
  have hbl := layB_len (t := t) hw hn hin hf
  have hkt := fun j ks => kp_torn hw (atW a n t c0) (layB Z a n t c0 l) (c0 % 64) (by omega) (by rw [hbl]; omega) (fun k hk => layB_old hw hn hin hf k hk) j ks
  have hkl := kp_lay hw (atW a n t c0) (layB Z a n t c0 l) (c0 % 64) (by omega) (by rw [hbl]; omega) (fun k hk => layB_old hw hn hin hf k hk)
  rw [hbl] at hkt hkl
  rcases hr with ⟨hl0, j, lf, rfl⟩ | hr
  · exact .inr ⟨hl0, _, _, lf, rfl, fun ks => ⟨.inl (h.kp hN hw hn hin hf (hkt j ks)), out_kp hn hf (hkt j ks)⟩⟩
  · have h1 := h.kp hN hw hn hin hf hkl
    have ho1 := out_kp hn hf hkl
    have hnew := lay_new h hN hw hn hin hf
    have hok1 : ∀ r ∈ Lo ++ l, rokR r = true := fun r hr => by
      rcases List.mem_append.1 hr with hr | hr
      · rcases hN with ⟨-, -, rfl⟩ | ⟨-, -, rfl⟩
        · exact h.ok r hr
        · exact absurd hr (by simp)
      · exact hok r hr
    have hl1 : c0 + sumL l = sumL (Lo ++ l) := by
      rw [sumL_app]
      rcases hN with ⟨-, rfl, rfl⟩ | ⟨-, rfl, rfl⟩
      · rw [← h.lenL]
      · simp [sumL]
    generalize layW Z (chunks (atW a n t c0) (layB Z a n t c0 l)) = Z1 at *
    have ha : a < Z1.length := by rw [hkl.len]; omega
    have hs0 : Z1[a]? = some Z1[a] := List.getElem?_eq_getElem ha
    have hx64 : (padS (hdF a n t (c0 + sumL l))).length = 64 := padS_len (by rw [hdF_len]; decide)
    have hch : chunks a (hdF a n t (c0 + sumL l)) = [(a, padS (hdF a n t (c0 + sumL l)))] := by
      unfold chunks
      rw [hdF_len]
      show [chunk a _ 0] = _
      unfold chunk
      rw [Nat.mul_zero, List.drop_zero, List.take_of_length_le (by rw [hdF_len]; decide), Nat.add_zero]
    have two := fun s hs hh => head_two (s := s) hkl.wide hn hn2 h1 hnew hok1 hl1 hf ht hs0 hs hh
    rcases hr with ⟨lf, hl0, rfl⟩ | ⟨hl0, j, lf, rfl⟩
    · have := two _ hx64 (.inr rfl)
      refine .inl ⟨_, lf, hl0, rfl, ?_, ?_⟩
      · rw [hch]
        exact this.2.1 rfl
      · rw [hch]
        exact ho1.trans this.2.2
    · refine .inr ⟨hl0, _, _, lf, rfl, fun ks => ?_⟩
      rw [hch]
      match j, ks with
      | 0, ks =>
        have e : tornW Z1 ([(a, padS (hdF a n t (c0 + sumL l)))].take 0) ks = Z1 := by unfold tornW; rfl
        rw [e]
        exact ⟨.inl h1, ho1⟩
      | j + 1, [] =>
        rw [tornW_nil]
        exact ⟨.inl h1, ho1⟩
      | j + 1, k :: ks =>
        have e : tornW Z1 ([(a, padS (hdF a n t (c0 + sumL l)))].take (j + 1)) (k :: ks) = Z1.set a (torn k Z1[a] (padS (hdF a n t (c0 + sumL l)))) := by
          rw [List.take_succ_cons, List.take_nil, tornW, hs0]
          unfold tornW
          rfl
        have hz := hkl.wide _ (List.mem_of_getElem? hs0)
        have := two (torn k Z1[a] (padS (hdF a n t (c0 + sumL l)))) (torn_len hz hx64) (torn_half hz hx64)
        rw [e]
        exact ⟨this.1, ho1.trans this.2.2⟩
end Go.Proofs.YtahgaogmcffglaaDoor
