/- The code's log: Open. -/
import Derived.Test.YtahgaogmcffglaaDoorJRecL
import Derived.Test.YtahgaogmcffglaaDoorJWcL
import Derived.Test.YtahgaogmcffglaaDoorJWlG
namespace Go.Proofs.YtahgaogmcffglaaDoor
open Go.RowKit

/-- What Open answers, where there is a log to open. -/
def OpnR (a n t len : Nat) (L : List Rcd) (w : World) (B gd : Nat) (e : Ending) (w' : World) : Prop :=
  Below w.heap.size w w' ∧ ∃ g v qs Fw mid, e = .returned (.tuple #[.pointer (some ⟨g, 0, none⟩), v, .int .i64 0]) ∧ WlK w' Fw B g gd ⟨a, n, t, len, L, false⟩ ∧ (∀ k, Fw k → w.heap.size ≤ k ∧ k < mid) ∧ w.heap.size ≤ mid ∧ ScS w' mid v qs ∧ qs.map (·.1) = L
set_option maxRecDepth 100000 in
set_option maxHeartbeats 16000000 in
theorem wOpen_any (X : Snt14) (w : World) {Fd : Nat → Prop} {B gd : Nat} {Z : List (List UInt8)} {lf : Int} (a n t len : Nat) (L : List Rcd)
    (hA : ∀ W, Below B w W → Lds14 X W) (hBw : B ≤ w.heap.size) (hd : CDk w Fd B gd ⟨Z, [], true, lf⟩) (hn4 : 4 ≤ n) (hin : a + n ≤ Z.length) (hI : InZ a n Z t len L) :
    Calls Tryd.prog 21 #[.pointer (some ⟨gd, 0, none⟩), .int .i64 (a : Int), .int .i64 (n : Int)] w (OpnR a n t len L w B gd) := by
  have hZ : Z.length ≤ 65536 := hd.few
  have C1 := csectors_any w hd
  have C2 := cwaiting_any w hd
  have C1 := Lib.hid (show Calls Tryd.prog 44 #[.pointer (some ⟨gd, 0, none⟩)] w fun e w' => e = .returned (.int .i64 (Z.length : Int)) ∧ w = w' from C1)
  have C2 := Lib.hid (show Calls Tryd.prog 45 #[.pointer (some ⟨gd, 0, none⟩)] w fun e w' => e = .returned (.int .i64 0) ∧ w = w' from C2)
  obtain ⟨w1, hw1⟩ : ∃ w1, w1 = w.alloc (.cells #[.pointer (some ⟨gd, 0, none⟩), .int .i64 (a : Int), .int .i64 (n : Int), .int .u64 0, .int .i64 0, .slice none 0 0, .bool false] 63) := ⟨_, rfl⟩
  have hb1 : Below w.heap.size w w1 := by rw [hw1]; exact (Below.refl _ _).alloc (Nat.le_refl _) _
  have hr1 : w1.heap[w.heap.size]? = some (.cells (Ws.cs ⟨a, n, 0, 0, [], false⟩ gd (.slice none 0 0)) 63 (0, 0)) := by rw [hw1]; exact heap_alloc_new w _
  have hft : ∀ k, ¬ FtR (.slice none 0 0) [] k := fun k hk => by
    rcases hk with hk | ⟨q, hq, -⟩
    · cases hk
    · exact absurd hq (by simp)
  have hk1 := WlK.mk_ (S := ⟨a, n, 0, 0, [], false⟩) hBw hr1 (⟨World.ownsRow_nil _ _ _ _, fun q hq => absurd hq (by simp)⟩ : ScS w1 B (.slice none 0 0) []) rfl (Nat.zero_le _)
  have CL := Lib.hid (wload_any X w1 a n t len L (fun W hW => hA W ((hb1.mono hBw).trans hW)) (Nat.le_trans hBw hb1.size) (hd.below hb1) hk1 (by omega) hin hI)
  have c1 : ¬ (n : Int) < 4 := by omega
  have c2 : ¬ (a : Int) < 0 := by omega
  have w2 : IntKind.i64.wrap ((Z.length : Int) - (n : Int)) = (Z.length : Int) - (n : Int) := by rw [IntKind.wrap_i64]; omega
  have c3 : ¬ ((Z.length : Int) - (n : Int) < (a : Int)) := by omega
  have HB1 := Lib.hid hb1
  have HW1 := Lib.hid hw1
  have HS1 : Hid (w.heap.size < w1.heap.size) := by show _ < _; rw [hw1]; simp
  have HFT := Lib.hid hft
  clear hA hBw hd hn4 hin hI hZ hb1 hr1 hft hk1 hw1
  go_enter Tryd.func21, Tryd.ntmps21
  go_upto_region 8 with (first
    | (go_at_call 44; refine C1.out.mono ?_; rintro e wx ⟨rfl, rfl⟩)
    | (go_at_call 45; refine C2.out.mono ?_; rintro e wx ⟨rfl, rfl⟩)
    | fail)
  rw [← HW1.out]
  go_wp2_with fail
  refine CL.out.mono ?_
  rintro e w5 ⟨rfl, Fw, hw5, hf5, hg5⟩
  have HFW : Hid (∀ k, Fw k → w.heap.size ≤ k) := fun k hk => by
    rcases hg5 k hk with h | h
    · rcases h with rfl | h
      · exact Nat.le_refl _
      · exact absurd h (HFT.out k)
    · have := HS1.out; omega
  have B5 : Hid (Below w.heap.size w w5) := HB1.out.trans (hf5.below HB1.out.size (fun k hk => by
    rcases hk with rfl | hk
    · exact Nat.le_refl _
    · exact absurd hk (HFT.out k)))
  have HW5 := Lib.hid hw5
  have CR := Lib.hid (wRecords_any w5 hw5)
  have hrs : Ws.recs ⟨a, n, t, len, L, false⟩ = L := rfl
  rw [hrs] at CR
  clear hw5 hf5 hg5 hrs
  unfold RcsR at CR
  go_wp2_with (first
    | (go_at_call 22; refine CR.out.mono ?_; rintro e w6 ⟨hb6, v6, q6, rfl, hs6, hq6⟩; have B6 := Lib.hid hb6; have S6 := Lib.hid hs6; have Q6 := Lib.hid hq6; clear hb6 hs6 hq6)
    | fail)
  refine bodyPost_ret (results_tmp3 Tryd.results21 _ _ _) rfl ⟨B5.out.trans (B6.out.mono B5.out.size), w.heap.size, v6, q6, Fw, w5.heap.size, rfl, HW5.out.below B6.out, fun k hk => ⟨HFW.out k hk, (HW5.out.fit k hk).2⟩, B5.out.size, S6.out, Q6.out⟩
end Go.Proofs.YtahgaogmcffglaaDoor
/- Logs, plain: what is left of lay, whatever a stop leaves. -/
namespace Go.Proofs.YtahgaogmcffglaaDoor
open Go.RowKit

theorem framesR_app15 (salt : Nat) (m : List Rcd) : ∀ l : List Rcd, framesR salt (l ++ m) = framesR salt l ++ framesR salt m
  | [] => by simp [framesR]
  | r :: l => by rw [List.cons_append, framesR, framesR_app15 salt m l, framesR, List.append_assoc]
/-- Other sectors are as they were. -/
structure OutZ (a n : Nat) (Z Z' : List (List UInt8)) : Prop where
  len : Z'.length = Z.length
  wide : ∀ s ∈ Z', s.length = 64
  out : ∀ i, i < a ∨ a + n ≤ i → Z'[i]? = Z[i]?
theorem OutZ.trans {a n : Nat} {Z Z' Z'' : List (List UInt8)} (h : OutZ a n Z Z') (h' : OutZ a n Z' Z'') : OutZ a n Z Z'' := ⟨h'.len.trans h.len, h'.wide, fun i hi => (h'.out i hi).trans (h.out i hi)⟩
theorem OutZ.refl {a n : Nat} {Z : List (List UInt8)} (h : ∀ s ∈ Z, s.length = 64) : OutZ a n Z Z := ⟨rfl, h, fun _ _ => rfl⟩
/-- What a log's next records are laid behind. -/
def Nxt (t0 len0 : Nat) (L0 : List Rcd) (t c0 : Nat) (Lo : List Rcd) : Prop := (t = t0 ∧ c0 = len0 ∧ Lo = L0) ∨ (t % 2 ≠ t0 % 2 ∧ c0 = 0 ∧ Lo = [])
section
variable {a n t0 len0 : Nat} {Z : List (List UInt8)} {L0 : List Rcd} {t c0 : Nat} {Lo l : List Rcd}
theorem layB_len (hw : ∀ s ∈ Z, s.length = 64) (hn : 1 ≤ n) (hin : a + n ≤ Z.length) (hf : c0 + sumL l ≤ hlf n * 64) : (layB Z a n t c0 l).length = c0 % 64 + sumL l := by
  have h1 : atW a n t c0 * 64 + c0 % 64 ≤ Z.length * 64 := (lay_nums (s := sumL l) (stW_in a n t).2 (hlf_two hn) hin hf).1
  unfold layB
  rw [List.length_append, rdZ_len hw _ _ h1, sumL_frames]
theorem layB_old (hw : ∀ s ∈ Z, s.length = 64) (hn : 1 ≤ n) (hin : a + n ≤ Z.length) (hf : c0 + sumL l ≤ hlf n * 64) (k : Nat) (hk : k < c0 % 64) : (layB Z a n t c0 l)[k]? = (Z[atW a n t c0]?).bind (·[k]?) := by
  have h1 : atW a n t c0 * 64 + c0 % 64 ≤ Z.length * 64 := (lay_nums (s := sumL l) (stW_in a n t).2 (hlf_two hn) hin hf).1
  unfold layB
  rw [List.getElem?_append_left (by rw [rdZ_len hw _ _ h1]; exact hk), rdZ_at hw _ _ _ hk, show k / 64 = 0 by omega, show k % 64 = k by omega, Nat.add_zero]
/-- Sectors that only the row to come was laid into have the old log. -/
theorem InZ.kp {Z' : List (List UInt8)} (h : InZ a n Z t0 len0 L0) (hN : Nxt t0 len0 L0 t c0 Lo) (hw : ∀ s ∈ Z, s.length = 64) (hn : 1 ≤ n) (hin : a + n ≤ Z.length) (hf : c0 + sumL l ≤ hlf n * 64) (hk : Kp Z Z' (atW a n t c0) (secN (c0 % 64 + sumL l)) (c0 % 64)) : InZ a n Z' t0 len0 L0 := by
  have h2 := hlf_two hn
  have s1 := stW_in a n t
  have s0 := stW_in a n t0
  have hfit := h.fit
  refine h.same ?_ ?_
  · refine hk.rd hw (by omega) a 32 (by omega) (.inl ?_)
    unfold atW
    omega
  · refine hk.rd hw (by omega) _ _ (by omega) ?_
    rcases hN with ⟨rfl, rfl, rfl⟩ | ⟨hp, rfl, rfl⟩
    · refine .inl ?_
      unfold atW
      omega
    · rcases stW_next a n t t0 hp with h3 | h3
      · refine .inr ?_
        unfold atW secN
        omega
      · refine .inl ?_
        unfold atW
        omega
theorem out_kp {Z' : List (List UInt8)} (hn : 1 ≤ n) (hf : c0 + sumL l ≤ hlf n * 64) (hk : Kp Z Z' (atW a n t c0) (secN (c0 % 64 + sumL l)) (c0 % 64)) : OutZ a n Z Z' := by
  have h2 := hlf_two hn
  have s1 := stW_in a n t
  refine ⟨hk.len, hk.wide, fun i hi => hk.out i ?_⟩
  rcases hi with hi | hi
  · refine .inl ?_
    unfold atW
    omega
  · refine .inr ?_
    unfold atW secN
    omega
/-- What was laid whole reads as all records. -/
theorem lay_new (h : InZ a n Z t0 len0 L0) (hN : Nxt t0 len0 L0 t c0 Lo) (hw : ∀ s ∈ Z, s.length = 64) (hn : 1 ≤ n) (hin : a + n ≤ Z.length) (hf : c0 + sumL l ≤ hlf n * 64) : rdZ (layW Z (chunks (atW a n t c0) (layB Z a n t c0 l))) (stW a n t) (c0 + sumL l) = framesR t (Lo ++ l) := by
  have h2 := hlf_two hn
  have s1 := stW_in a n t
  obtain ⟨n1, n2⟩ : atW a n t c0 * 64 + c0 % 64 ≤ Z.length * 64 ∧ atW a n t c0 + secN (c0 % 64 + sumL l) ≤ Z.length := lay_nums (s := sumL l) s1.2 h2 hin hf
  have hbl := layB_len (t := t) hw hn hin hf
  have hold : rdZ Z (stW a n t) c0 = framesR t Lo := by
    rcases hN with ⟨rfl, rfl, rfl⟩ | ⟨-, rfl, rfl⟩
    · exact h.by_
    · rw [rdZ_zero]; rfl
  have hlo : sumL Lo = c0 := by
    rcases hN with ⟨rfl, rfl, rfl⟩ | ⟨-, rfl, rfl⟩
    · exact h.lenL.symm
    · rfl
  have hkp := kp_lay hw (atW a n t c0) (layB Z a n t c0 l) (c0 % 64) (by omega) (by rw [hbl]; omega) (fun k hk => layB_old hw hn hin hf k hk)
  refine rdZ_ext hkp.wide _ _ _ (by rw [hkp.len]; omega) (by rw [sumL_frames, sumL_app, hlo]) fun k hk => ?_
  rw [framesR_app15, ← hold]
  have hrl : (rdZ Z (stW a n t) c0).length = c0 := rdZ_len hw _ _ (by omega)
  by_cases hk1 : k / 64 < c0 / 64
  · rw [hkp.out _ (.inl (by unfold atW; omega)), List.getElem?_append_left (by rw [hrl]; omega), rdZ_at hw _ _ _ (by omega)]
  · have e1 : stW a n t + k / 64 = atW a n t c0 + (k - 64 * (c0 / 64)) / 64 := by unfold atW; omega
    have e2 : k % 64 = (k - 64 * (c0 / 64)) % 64 := by omega
    rw [e1, e2, lay_rd _ _ (by rw [hbl]; exact n2) _ (by rw [hbl]; omega)]
    by_cases hk2 : k < c0
    · rw [layB_old hw hn hin hf _ (by omega), List.getElem?_append_left (by rw [hrl]; exact hk2), rdZ_at hw _ _ _ hk2, show stW a n t + k / 64 = atW a n t c0 by unfold atW; omega, show k - 64 * (c0 / 64) = k % 64 by omega]
    · rw [List.getElem?_append_right (by rw [hrl]; omega), hrl]
      unfold layB
      rw [List.getElem?_append_right (by rw [rdZ_len hw _ _ n1]; omega), rdZ_len hw _ _ n1]
      congr 1
      omega
end
theorem rdZ_set (Z : List (List UInt8)) (s : List UInt8) {a st : Nat} (h : a < st) (n : Nat) : rdZ (Z.set a s) st n = rdZ Z st n := by
  unfold rdZ
  rw [List.drop_set_of_lt h]
theorem set_wide {Z : List (List UInt8)} (hw : ∀ s ∈ Z, s.length = 64) {s : List UInt8} (hs : s.length = 64) (a : Nat) : ∀ x ∈ Z.set a s, x.length = 64 := fun x hx => by
  rcases List.mem_or_eq_of_mem_set hx with h | h
  · exact hw x h
  · rw [h]; exact hs
/-- A head sector laid anew, whose first half is the old one's or the new one's. -/
theorem head_two {a n t0 len0 t c1 : Nat} {Z : List (List UInt8)} {L0 L1 : List Rcd} {s0 s : List UInt8} (hw : ∀ s ∈ Z, s.length = 64) (hn : 1 ≤ n) (hn2 : n ≤ 65536) (h0 : InZ a n Z t0 len0 L0) (h1 : rdZ Z (stW a n t) c1 = framesR t L1) (hok : ∀ r ∈ L1, rokR r = true) (hl : c1 = sumL L1) (hf : c1 ≤ hlf n * 64) (ht : t < 18446744073709551616)
    (hs0 : Z[a]? = some s0) (hs : s.length = 64) (h : s.take 32 = s0.take 32 ∨ s.take 32 = (padS (hdF a n t c1)).take 32) : (InZ a n (Z.set a s) t0 len0 L0 ∨ InZ a n (Z.set a s) t c1 L1) ∧ (s.take 32 = (padS (hdF a n t c1)).take 32 → InZ a n (Z.set a s) t c1 L1) ∧ OutZ a n Z (Z.set a s) := by
  have ha : a < Z.length := (List.getElem?_eq_some_iff.1 hs0).1
  have hws := set_wide hw hs a
  have hrd : rdZ (Z.set a s) a 32 = s.take 32 := rdZ_head hws (by rw [List.getElem?_set_self ha])
  have hold : s.take 32 = s0.take 32 → InZ a n (Z.set a s) t0 len0 L0 := fun e => h0.same (by rw [hrd, e, rdZ_head hw hs0]) (rdZ_set _ _ (by have := (stW_in a n t0).1; omega) _)
  have hnew : s.take 32 = (padS (hdF a n t c1)).take 32 → InZ a n (Z.set a s) t c1 L1 := fun e => by
    refine ⟨?_, by rw [rdZ_set _ _ (by have := (stW_in a n t).1; omega), h1], hok, hl, hf, ht⟩
    have e2 : (padS (hdF a n t c1)).take 32 = hdF a n t c1 ++ List.replicate 9 0 := by
      unfold padS
      rw [List.take_append, hdF_len, List.take_of_length_le (by rw [hdF_len]; decide), List.take_replicate]
      rfl
    unfold hdW
    rw [hrd, e, e2, rhW_hd a n t c1 _ ht hf (by have : hlf n ≤ 32768 := (by unfold hlf; omega)
                                                omega)]
    rfl
  refine ⟨?_, hnew, by simp, hws, fun i hi => ?_⟩
  · rcases h with h | h
    · exact .inl (hold h)
    · exact .inr (hnew h)
  · rw [List.getElem?_set_ne (by omega)]
/-- What is left of lay: the new log, on a disk on which nothing waits; or no power, and whatever a stop leaves is the old log or the new one. -/
def LaidR (l0 : Int) (a n t0 len0 : Nat) (L0 : List Rcd) (t c1 : Nat) (L1 : List Rcd) (Z : List (List UInt8)) (r : Cd × Int) : Prop :=
  (∃ Z' lf, (l0 = -1 → lf = -1) ∧ r = (⟨Z', [], true, lf⟩, 0) ∧ InZ a n Z' t c1 L1 ∧ OutZ a n Z Z') ∨
  (l0 ≠ -1 ∧ ∃ S ws lf, r = (⟨S, ws, false, lf⟩, 131) ∧ ∀ ks, (InZ a n (tornW S ws ks) t0 len0 L0 ∨ InZ a n (tornW S ws ks) t c1 L1) ∧ OutZ a n Z (tornW S ws ks))
theorem laid_of {l0 : Int} {a n t0 len0 : Nat} {Z : List (List UInt8)} {L0 : List Rcd} {t c0 : Nat} {Lo l : List Rcd} {r : Cd × Int} (hr : LayR Z l0 a n t c0 l r) (h : InZ a n Z t0 len0 L0) (hN : Nxt t0 len0 L0 t c0 Lo) (hw : ∀ s ∈ Z, s.length = 64) (hn : 1 ≤ n) (hn2 : n ≤ 65536) (hin : a + n ≤ Z.length) (hf : c0 + sumL l ≤ hlf n * 64) (hok : ∀ r ∈ l, rokR r = true) (ht : t < 18446744073709551616) : LaidR l0 a n t0 len0 L0 t (c0 + sumL l) (Lo ++ l) Z r := by
  have hbl := layB_len (t := t) hw hn hin hf
  have hkt := fun j ks => kp_torn hw (atW a n t c0) (layB Z a n t c0 l) (c0 % 64) (by omega) (by rw [hbl]; omega) (fun k hk => layB_old hw hn hin hf k hk) j ks
  have hkl := kp_lay hw (atW a n t c0) (layB Z a n t c0 l) (c0 % 64) (by omega) (by rw [hbl]; omega) (fun k hk => layB_old hw hn hin hf k hk)
  rw [hbl] at hkt hkl
  rcases hr with ⟨hl0, j, lf, rfl⟩ | hr
  · exact .inr ⟨hl0, _, _, lf, rfl, fun ks => ⟨.inl (h.kp hN hw hn hin hf (hkt j ks)), out_kp hn hf (hkt j ks)⟩⟩
  · have h1 := h.kp hN hw hn hin hf hkl
    have ho1 := out_kp hn hf hkl
    have hnew := lay_new h hN hw hn hin hf
    have hok1 : ∀ r ∈ Lo ++ l, rokR r = true := fun r hr => by
      rcases List.mem_append.1 hr with hr | hr
      · rcases hN with ⟨-, -, rfl⟩ | ⟨-, -, rfl⟩
        · exact h.ok r hr
        · exact absurd hr (by simp)
      · exact hok r hr
    have hl1 : c0 + sumL l = sumL (Lo ++ l) := by
      rw [sumL_app]
      rcases hN with ⟨-, rfl, rfl⟩ | ⟨-, rfl, rfl⟩
      · rw [← h.lenL]
      · simp [sumL]
    generalize layW Z (chunks (atW a n t c0) (layB Z a n t c0 l)) = Z1 at *
    have ha : a < Z1.length := by rw [hkl.len]; omega
    have hs0 : Z1[a]? = some Z1[a] := List.getElem?_eq_getElem ha
    have hx64 : (padS (hdF a n t (c0 + sumL l))).length = 64 := padS_len (by rw [hdF_len]; decide)
    have hch : chunks a (hdF a n t (c0 + sumL l)) = [(a, padS (hdF a n t (c0 + sumL l)))] := by
      unfold chunks
      rw [hdF_len]
      show [chunk a _ 0] = _
      unfold chunk
      rw [Nat.mul_zero, List.drop_zero, List.take_of_length_le (by rw [hdF_len]; decide), Nat.add_zero]
    have two := fun s hs hh => head_two (s := s) hkl.wide hn hn2 h1 hnew hok1 hl1 hf ht hs0 hs hh
    rcases hr with ⟨lf, hl0, rfl⟩ | ⟨hl0, j, lf, rfl⟩
    · have := two _ hx64 (.inr rfl)
      refine .inl ⟨_, lf, hl0, rfl, ?_, ?_⟩
      · rw [hch]
        exact this.2.1 rfl
      · rw [hch]
        exact ho1.trans this.2.2
    · refine .inr ⟨hl0, _, _, lf, rfl, fun ks => ?_⟩
      rw [hch]
      match j, ks with
      | 0, ks =>
        have e : tornW Z1 ([(a, padS (hdF a n t (c0 + sumL l)))].take 0) ks = Z1 := by unfold tornW; rfl
        rw [e]
        exact ⟨.inl h1, ho1⟩
      | j + 1, [] =>
        rw [tornW_nil]
        exact ⟨.inl h1, ho1⟩
      | j + 1, k :: ks =>
        have e : tornW Z1 ([(a, padS (hdF a n t (c0 + sumL l)))].take (j + 1)) (k :: ks) = Z1.set a (torn k Z1[a] (padS (hdF a n t (c0 + sumL l)))) := by
          rw [List.take_succ_cons, List.take_nil, tornW, hs0]
          unfold tornW
          rfl
        have hz := hkl.wide _ (List.mem_of_getElem? hs0)
        have := two (torn k Z1[a] (padS (hdF a n t (c0 + sumL l)))) (torn_len hz hx64) (torn_half hz hx64)
        rw [e]
        exact ⟨this.1, ho1.trans this.2.2⟩
end Go.Proofs.YtahgaogmcffglaaDoor
/- The code's log: what Append and Reset leave, said plainly; Open that is refused. -/
namespace Go.Proofs.YtahgaogmcffglaaDoor
open Go.RowKit

theorem len_sumL7 : ∀ l : List Rcd, 7 * l.length ≤ sumL l
  | [] => Nat.zero_le _
  | r :: l => by
    have e : sumL (r :: l) = (r.dat.length + 7) + sumL l := by simp [sumL]
    have := len_sumL7 l
    rw [e, List.length_cons]
    omega
/-- What is left of a change of a log from records L0 to L1. -/
def ChgO (z l0 : Int) (a n t0 len0 : Nat) (L0 : List Rcd) (t1 len1 : Nat) (L1 : List Rcd) (Z : List (List UInt8)) (w : World) (F : Nat → Prop) (B g gd : Nat) (e : Ending) (w' : World) : Prop :=
  (z ≠ 0 ∧ e = .returned (.int .i64 z) ∧ Below w.heap.size w w') ∨
  (z = 0 ∧ ∃ Fd' Fw', (∀ k, Fd' k → ¬ Fw' k) ∧ Fr F w w' ∧ Grew w F (fun k => Fd' k ∨ Fw' k) ∧
    ((∃ Z' lf, (l0 = -1 → lf = -1) ∧ e = .returned (.int .i64 0) ∧ CDk w' Fd' B gd ⟨Z', [], true, lf⟩ ∧ WlK w' Fw' B g gd ⟨a, n, t1, len1, L1, false⟩ ∧ InZ a n Z' t1 len1 L1 ∧ OutZ a n Z Z') ∨
     (l0 ≠ -1 ∧ ∃ S ws lf, e = .returned (.int .i64 131) ∧ CDk w' Fd' B gd ⟨S, ws, false, lf⟩ ∧ WlK w' Fw' B g gd ⟨0, 0, 0, 0, [], true⟩ ∧ ws.length ≤ 1000000 ∧ ∀ ks, (InZ a n (tornW S ws ks) t0 len0 L0 ∨ InZ a n (tornW S ws ks) t1 len1 L1) ∧ OutZ a n Z (tornW S ws ks))))
theorem chg_out {z l0 : Int} {a n t0 len0 t c0 : Nat} {L0 Lo l : List Rcd} {Z : List (List UInt8)} {w w' : World} {F : Nat → Prop} {B g gd : Nat} {e : Ending} (h : ChgR z Z l0 a n t c0 Lo l w F B g gd e w')
    (hI : InZ a n Z t0 len0 L0) (hN : Nxt t0 len0 L0 t c0 Lo) (hw : ∀ s ∈ Z, s.length = 64) (hn : 1 ≤ n) (hn2 : n ≤ 65536) (hin : a + n ≤ Z.length) (hZ : Z.length ≤ 65536) (ht : t < 18446744073709551616) (hz : z = 0 → c0 + sumL l ≤ hlf n * 64 ∧ ∀ r ∈ l, rokR r = true) : ChgO z l0 a n t0 len0 L0 t (c0 + sumL l) (Lo ++ l) Z w F B g gd e w' := by
  rcases h with ⟨h1, h2, h3⟩ | ⟨h1, r, Fd', Fw', h2, h3, h4, h5, h6, h7, h8⟩
  · exact .inl ⟨h1, h2, h3⟩
  · obtain ⟨hf, hok⟩ := hz h1
    have hbl := layB_len (t := t) hw hn hin hf
    have hwl : ∀ S ws lf, r = (⟨S, ws, false, lf⟩, 131) → ws.length ≤ 1000000 := fun S ws lf e => by
      have hsb : sumL l ≤ 4194304 := by have := hlf_two hn; omega
      rcases h2 with ⟨-, j, l2, rfl⟩ | ⟨l2, -, rfl⟩ | ⟨-, j, l2, rfl⟩
      · injection e with e1 _
        injection e1 with _ e2 _ _
        rw [← e2, List.length_take, chunks_len, hbl]
        unfold secN
        omega
      · injection e with _ e2
        exact absurd e2 (by decide)
      · injection e with e1 _
        injection e1 with _ e2 _ _
        rw [← e2, List.length_take, chunks_len, hdF_len]
        unfold secN
        omega
    refine .inr ⟨h1, Fd', Fw', h5, h6, h7, ?_⟩
    rcases laid_of h2 hI hN hw hn hn2 hin hf hok ht with ⟨Z', lf, hl, rfl, hi, ho⟩ | ⟨hl, S, ws, lf, rfl, hk⟩
    · exact .inl ⟨Z', lf, hl, h8, h3, by simpa using h4, hi, ho⟩
    · exact .inr ⟨hl, S, ws, lf, h8, h3, by simpa using h4, hwl S ws lf rfl, hk⟩
theorem live_of {a n t len : Nat} {L : List Rcd} {Z : List (List UInt8)} (hI : InZ a n Z t len L) (hn : 1 ≤ n) (hin : a + n ≤ Z.length) (hZ : Z.length ≤ 65536) : Live Z ⟨a, n, t, len, L, false⟩ :=
  ⟨rfl, hn, hin, hI.fit, hI.tn, by
    have h1 := len_sumL7 L
    have h2 := hlf_two hn
    have h3 := hI.fit
    rw [← hI.lenL] at h1
    show L.length ≤ _
    omega⟩
/-- The turn of the next record. -/
def turnN (t len : Nat) : Nat := if len = 0 then (t + 1) % 18446744073709551616 else t
theorem turnN_lt {t len : Nat} (h : t < 18446744073709551616) : turnN t len < 18446744073709551616 := by
  unfold turnN
  split
  · exact Nat.mod_lt _ (by decide)
  · exact h
theorem par_next (t : Nat) : (t + 1) % 18446744073709551616 % 2 ≠ t % 2 := by omega
theorem wAppendO_any (X : Snt14) (w : World) {Fd Fw : Nat → Prop} {B gd g : Nat} {Z : List (List UInt8)} {lf : Int} {a n t len : Nat} {L : List Rcd} (A : Option Addr) (m c : Nat) (r : Rcd)
    (hA : ∀ W, Below B w W → Lds14 X W) (hBw : B ≤ w.heap.size) (hd : CDk w Fd B gd ⟨Z, [], true, lf⟩) (hw : WlK w Fw B g gd ⟨a, n, t, len, L, false⟩) (hdis : ∀ k, Fd k → ¬ Fw k) (hI : InZ a n Z t len L) (hn : 1 ≤ n) (hin : a + n ≤ Z.length)
    (hr : ∀ W, Fr (fun k => Fd k ∨ Fw k) w W → Rd W w.heap.size A m r.dat) (hc : m ≤ c) (hm : m ≤ 140737488355328) :
    Calls Tryd.prog 17 #[.pointer (some ⟨g, 0, none⟩), recV r.typ A m c] w (ChgO (fitZ [r] (((hlf n * 64 : Nat) : Int) - (len : Int))) lf a n t len L (turnN t len) (len + (r.dat.length + 7)) (L ++ [r]) Z w (fun k => Fd k ∨ Fw k) B g gd) := by
  have hZ : Z.length ≤ 65536 := hd.few
  have hn2 : n ≤ 65536 := by omega
  refine (wAppend_any X w A m c r hA hBw hd hw hdis (live_of hI hn hin hZ) hr hc hm).mono ?_
  intro e w' h
  have hs : sumL [r] = r.dat.length + 7 := by simp [sumL]
  have h2 := chg_out h hI (t0 := t) (len0 := len) (L0 := L) (by
    by_cases h0 : len = 0
    · refine .inr ⟨?_, h0, sumL_none (by rw [← hI.lenL]; exact h0)⟩
      show (if len = 0 then (t + 1) % 18446744073709551616 else t) % 2 ≠ _
      rw [if_pos h0]
      exact par_next t
    · refine .inl ⟨?_, rfl, rfl⟩
      show (if len = 0 then (t + 1) % 18446744073709551616 else t) = _
      rw [if_neg h0]) hd.wide hn hn2 hin hZ (turnN_lt hI.tn) (fun hz => by
    obtain ⟨h3, h4⟩ := fitZ_zero hz
    have h5 : Ws.room ⟨a, n, t, len, L, false⟩ = ((hlf n * 64 : Nat) : Int) - (len : Int) := rfl
    rw [h5] at h4
    exact ⟨by show len + sumL [r] ≤ hlf n * 64; omega, h3⟩)
  rw [hs] at h2
  exact h2
theorem wResetO_any (X : Snt14) (w : World) {Fd Fw : Nat → Prop} {B gd g : Nat} {Z : List (List UInt8)} {lf : Int} {a n t len : Nat} {L : List Rcd} (A : Option Addr) (m c : Nat) (l : List Rcd)
    (hA : ∀ W, Below B w W → Lds14 X W) (hBw : B ≤ w.heap.size) (hd : CDk w Fd B gd ⟨Z, [], true, lf⟩) (hw : WlK w Fw B g gd ⟨a, n, t, len, L, false⟩) (hdis : ∀ k, Fd k → ¬ Fw k) (hI : InZ a n Z t len L) (hn : 1 ≤ n) (hin : a + n ≤ Z.length)
    (hr : ∀ W, Fr (fun k => Fd k ∨ Fw k) w W → RwC W w.heap.size A m l) (hm : m ≤ 1099511627776) :
    Calls Tryd.prog 19 #[.pointer (some ⟨g, 0, none⟩), .slice A m c] w (ChgO (fitZ l ((hlf n * 64 : Nat) : Int)) lf a n t len L ((t + 1) % 18446744073709551616) (sumL l) l Z w (fun k => Fd k ∨ Fw k) B g gd) := by
  have hZ : Z.length ≤ 65536 := hd.few
  have hn2 : n ≤ 65536 := by omega
  refine (wReset_any X w A m c l hA hBw hd hw hdis (live_of hI hn hin hZ) hr hm).mono ?_
  intro e w' h
  have h2 := chg_out h hI (t0 := t) (len0 := len) (L0 := L) (.inr ⟨par_next t, rfl, rfl⟩) hd.wide hn hn2 hin hZ (Nat.mod_lt _ (by decide)) (fun hz => by
    obtain ⟨h3, h4⟩ := fitZ_zero hz
    exact ⟨by show 0 + sumL l ≤ hlf n * 64; have h5 : (sumL l : Int) ≤ ((hlf n * 64 : Nat) : Int) := h4; omega, h3⟩)
  rw [Nat.zero_add, List.nil_append] at h2
  exact h2
theorem recV_zero : recV 0 none 0 0 = .agg #[.int .i64 0, .slice none 0 0] := rfl
set_option maxRecDepth 100000 in
set_option maxHeartbeats 4000000 in
/-- Open of more sectors than there are. -/
theorem wOpen_nine (w : World) {Fd : Nat → Prop} {B gd : Nat} {D : Cd} (hd : CDk w Fd B gd D) (h8 : D.secs.length = 8) :
    Calls Tryd.prog 21 #[.pointer (some ⟨gd, 0, none⟩), .int .i64 0, .int .i64 9] w fun e w' => e = .returned (.tuple #[.pointer none, .slice none 0 0, .int .i64 2]) ∧ w = w' := by
  have C1 := csectors_any w hd
  rw [h8] at C1
  have C1 := Lib.hid C1
  clear hd h8
  go_enter Tryd.func21, Tryd.ntmps21
  go_wp2_with (first
    | (go_at_call 44; refine C1.out.mono ?_; rintro e wx ⟨rfl, rfl⟩)
    | fail)
  exact bodyPost_ret (results_tmp3 Tryd.results21 _ _ _) rfl ⟨rfl, rfl⟩
set_option maxRecDepth 100000 in
set_option maxHeartbeats 4000000 in
/-- Open over no disk. -/
theorem wOpen_none (w : World) (a n : Int) (hn : (Lit.int .i64 n).wf = true) :
    Calls Tryd.prog 21 #[.pointer none, .int .i64 a, .int .i64 n] w fun e w' => e = .returned (.tuple #[.pointer none, .slice none 0 0, .int .i64 2]) ∧ w = w' := by
  have C1 := Lib.hid (nsectors_any w (p := none) (.inl rfl))
  have hn2 : -9223372036854775808 ≤ n ∧ n ≤ 9223372036854775807 := by simpa [Lit.wf, IntKind.min, IntKind.max, IntKind.signed, IntKind.bits] using hn
  by_cases h1 : n < 4
  · clear hn hn2
    go_enter Tryd.func21, Tryd.ntmps21
    go_wp2_with fail
    exact bodyPost_ret (results_tmp3 Tryd.results21 _ _ _) rfl ⟨rfl, rfl⟩
  by_cases h2 : a < 0
  · clear hn hn2
    go_enter Tryd.func21, Tryd.ntmps21
    go_wp2_with fail
    exact bodyPost_ret (results_tmp3 Tryd.results21 _ _ _) rfl ⟨rfl, rfl⟩
  have w1 : IntKind.i64.wrap (0 - n) = -n := by rw [IntKind.wrap_i64]; omega
  have w2 : IntKind.i64.wrap (-n) = -n := by rw [IntKind.wrap_i64]; omega
  have h3 : -n < a := by omega
  clear hn hn2
  go_enter Tryd.func21, Tryd.ntmps21
  go_wp2_with (first
    | (go_at_call 44; refine C1.out.mono ?_; rintro e wx ⟨rfl, rfl⟩)
    | fail)
  exact bodyPost_ret (results_tmp3 Tryd.results21 _ _ _) rfl ⟨rfl, rfl⟩
end Go.Proofs.YtahgaogmcffglaaDoor
/- Layer 15's law: what must come at any rate. -/
namespace Go.Proofs.YtahgaogmcffglaaDoor
open Go.RowKit

theorem RwC.belowB {w w' : World} {B n : Nat} {A : Option Addr} {l : List Rcd} (h : RwC w B A n l) (hb : Below B w w') : RwC w' B A n l := ⟨h.1, fun h0 => by
  obtain ⟨b, o, e, hbb, hx⟩ := h.2 h0
  exact ⟨b, o, e, hbb, hx.below hbb hb⟩⟩
theorem RwC.moreB {w : World} {B B' n : Nat} {A : Option Addr} {l : List Rcd} (h : RwC w B A n l) (hB : B ≤ B') : RwC w B' A n l := ⟨h.1, fun h0 => by
  obtain ⟨b, o, e, hbb, hx⟩ := h.2 h0
  exact ⟨b, o, e, Nat.lt_of_lt_of_le hbb hB, hx.more hB⟩⟩
/-- One record in a row. -/
theorem RwC.one {w : World} {b n c : Nat} {A : Option Addr} {r : Rcd} (hg : w.heap[b]? = some (.cells #[.int .i64 r.typ, .slice A n c] 35 (0, 0))) (hr : Rd w w.heap.size A n r.dat) (hc : n ≤ c) (hn : n ≤ 140737488355328) : RwC w w.heap.size (some ⟨b, 0, none⟩) 1 [r] := ⟨rfl, fun _ => ⟨b, 0, rfl, (Array.getElem?_eq_some_iff.1 hg).1, fun i q hq => by
  match i, hq with
  | 0, hq =>
    obtain rfl : r = q := by simpa using hq
    exact ⟨A, n, c, (row2 hg).1.1, (row2 hg).1.2, hc, hn, hr⟩
  | i + 1, hq => simp at hq⟩⟩
def rH : Rcd := ⟨3, [97, 98, 99]⟩
set_option maxRecDepth 100000 in
set_option maxHeartbeats 16000000 in
theorem heads15_any (X : Snt14) (w : World) (hA : ∀ W, Below w.heap.size w W → Lds14 X W) : Calls Tryd.prog 8 #[] w fun e w' => e = .returned (.bool true) ∧ Below w.heap.size w w' := by
  have HA := Lib.hid hA
  have CN := Lib.hid (cnew_any 8 w)
  clear hA
  go_enter Tryd.func8, Tryd.ntmps8
  go_wp2_with fail
  refine CN.out.mono ?_
  rintro e w1 h1
  rcases h1 with ⟨-, -, Fd, gd, rfl, hd1, hb1⟩ | ⟨h1, -, -⟩
  case inr => exact absurd ⟨by decide, by decide⟩ h1
  have hS : (List.replicate (8 : Int).toNat z64) = List.replicate 8 z64 := rfl
  rw [hS] at hd1
  have D1 := Lib.hid hd1
  have B1 := Lib.hid hb1
  have CO := wOpen_any X w1 (B := w.heap.size) 0 8 0 0 [] (fun W hW => HA.out W (hb1.trans hW)) hb1.size hd1 (by decide) (by decide) (inz_noughts 0 8 8 (by decide))
  have CO := Lib.hid (show Calls Tryd.prog 21 #[.pointer (some ⟨gd, 0, none⟩), .int .i64 0, .int .i64 8] w1 (OpnR 0 8 0 0 [] w1 w.heap.size gd) from CO)
  clear hS hd1 hb1
  go_wp2_with fail
  refine CO.out.mono ?_
  rintro e w2 ⟨hb2, gw, v2, q2, Fw, mid, rfl, hw2, hf2, hm2, hs2, hq2⟩
  have hq0 : q2 = [] := by simpa using hq2
  subst hq0
  obtain ⟨A2, c2, rfl, -, -⟩ := hs2.rw
  have W2 := Lib.hid hw2
  have B2 := Lib.hid hb2
  have D2 := Lib.hid (D1.out.below hb2)
  have HDI : Hid (∀ k, Fd k → ¬ Fw k) := fun k h1 h2 => by
    have := (D1.out.fit k h1).2
    have := (hf2 k h2).1
    omega
  clear hb2 hw2 hf2 hm2 hs2 hq2 CO
  obtain ⟨w3, hw3⟩ : ∃ w3, w3 = (w2.alloc (.cells #[.int .u8 97, .int .u8 98, .int .u8 99] 5 (3, 4))).alloc (.cells #[.int .i64 3, .slice (some ⟨w2.heap.size, 0, none⟩) 3 3] 35) := ⟨_, rfl⟩
  have B3 : Hid (Below w2.heap.size w2 w3) := by show Below _ _ _; rw [hw3]; exact ((Below.refl _ _).alloc (Nat.le_refl _) _).alloc (by simp) _
  have R3 : Hid (w3.heap[w2.heap.size + 1]? = some (.cells #[.int .i64 3, .slice (some ⟨w2.heap.size, 0, none⟩) 3 3] 35 (0, 0))) := by show _ = _; rw [hw3]; exact heap_alloc2_new w2 _ _
  have T3 : Hid (w3.heap[w2.heap.size]? = some (.cells #[.int .u8 97, .int .u8 98, .int .u8 99] 5 (3, 4))) := by show _ = _; rw [hw3]; exact heap_alloc2_old w2 _ _
  have HW3 := Lib.hid hw3
  have HS3 : Hid (w2.heap.size + 2 ≤ w3.heap.size) := by show _ ≤ _; rw [hw3]; simp
  have RD : Hid (∀ W : World, W.heap[w2.heap.size]? = some (.cells #[.int .u8 97, .int .u8 98, .int .u8 99] 5 (3, 4)) → Rd W (w2.heap.size + 1) (some ⟨w2.heap.size, 0, none⟩) 3 rH.dat) := fun W hW => ⟨rfl, fun _ => ⟨w2.heap.size, 0, rfl, Nat.lt_succ_self _, fun i hi => by
    rw [cell_of_row W w2.heap.size _ _ _ _ hW]
    match i, hi with
    | 0, _ => rfl
    | 1, _ => rfl
    | 2, _ => rfl
    | i + 3, hi => omega⟩⟩
  have D3 := Lib.hid (D2.out.below B3.out)
  have W3 := Lib.hid (W2.out.below B3.out)
  have HNF : Hid (∀ k, w2.heap.size ≤ k → ¬ (Fd k ∨ Fw k)) := fun k hk h => by
    rcases h with h | h
    · exact D2.out.at_wide hk h
    · have := (W2.out.fit k h).2; omega
  have BW3 : Hid (Below w.heap.size w w3) := B1.out.trans ((B2.out.trans (B3.out.mono B2.out.size)).mono B1.out.size)
  have CAp := wAppendO_any X w3 (B := w.heap.size) (gd := gd) (g := gw) (some ⟨w2.heap.size, 0, none⟩) 3 3 rH (fun W hW => HA.out W (BW3.out.trans hW)) BW3.out.size D3.out W3.out HDI.out (inz_noughts 0 8 8 (by decide)) (by decide) (by decide) (fun W hW => (RD.out W ((hW.block _ (by have := HS3.out; omega) (HNF.out _ (Nat.le_refl _))).trans T3.out)).more (by have := HS3.out; omega)) (Nat.le_refl _) (by decide)
  have hz : fitZ [rH] (((hlf 8 * 64 : Nat) : Int) - ((0 : Nat) : Int)) = 0 := by decide
  rw [hz] at CAp
  unfold recV at CAp
  have CAp := Lib.hid CAp
  obtain ⟨⟨x0, x1⟩, -, -⟩ := row2 R3.out
  have kc := run_const
  clear hw3 hz
  go_upto_region 6 with fail
  rw [← HW3.out]
  go_wp2_with fail
  refine CAp.out.mono ?_
  rintro e w4 h4
  rcases h4 with ⟨h4, -, -⟩ | ⟨-, Fd4, Fw4, hdis4, hfr4, hgr4, h4⟩
  · exact absurd rfl h4
  rcases h4 with ⟨Z4, l4, hl4, rfl, hd4, hw4, hI4, hO4⟩ | ⟨h4, -⟩
  case inr => exact absurd rfl h4
  have hZ4 : Z4.length = 8 := by rw [hO4.len]; rfl
  have D4 := Lib.hid hd4
  have W4 := Lib.hid hw4
  have HDI4 := Lib.hid hdis4
  have I4 := Lib.hid hI4
  have B4 : Hid (Below w.heap.size w w4) := BW3.out.trans (hfr4.below BW3.out.size (fun k hk => by
    rcases hk with hk | hk
    · exact (D3.out.fit k hk).1
    · exact (W3.out.fit k hk).1))
  have R4 : Hid (w4.heap[w2.heap.size + 1]? = some (.cells #[.int .i64 3, .slice (some ⟨w2.heap.size, 0, none⟩) 3 3] 35 (0, 0))) := (hfr4.block _ (by have := HS3.out; omega) (HNF.out _ (Nat.le_succ _))).trans R3.out
  have T4 : Hid (w4.heap[w2.heap.size]? = some (.cells #[.int .u8 97, .int .u8 98, .int .u8 99] 5 (3, 4))) := (hfr4.block _ (by have := HS3.out; omega) (HNF.out _ (Nat.le_refl _))).trans T3.out
  have CO := wOpen_any X w4 (B := w.heap.size) 0 8 _ _ [rH] (fun W hW => HA.out W (B4.out.trans hW)) B4.out.size hd4 (by decide) (by rw [hZ4]; decide) hI4
  have CO := Lib.hid (show Calls Tryd.prog 21 #[.pointer (some ⟨gd, 0, none⟩), .int .i64 0, .int .i64 8] w4 (OpnR 0 8 _ _ [rH] w4 w.heap.size gd) from CO)
  have HL4 := Lib.hid hZ4
  clear hdis4 hfr4 hgr4 hl4 hd4 hw4 hI4 hO4 hZ4 CAp
  go_wp2_with fail
  refine CO.out.mono ?_
  rintro e w5 ⟨hb5, gw5, v5, q5, Fw5, mid5, rfl, -, -, hm5, hs5, hq5⟩
  have hl5 : q5.length = 1 := by have := congrArg List.length hq5; simpa using this
  obtain ⟨A5, c5, rfl, -, hr5⟩ := hs5.rw
  rw [hl5, hq5] at hr5
  rw [hl5]
  have B5 := Lib.hid hb5
  have R5 := Lib.hid hr5
  have CN9 := Lib.hid (wOpen_nine w5 (D4.out.below hb5) HL4.out)
  obtain ⟨⟨x0, x1⟩, -, -⟩ := row2 ((B5.out.block _ (Array.getElem?_eq_some_iff.1 R4.out).1).trans R4.out)
  clear hb5 hs5 hq5 hr5 hm5 hl5 CO
  go_wp2_with fail
  refine CN9.out.mono ?_
  rintro e wx ⟨rfl, rfl⟩
  obtain ⟨w6, hw6⟩ : ∃ w6, w6 = w5.alloc (.cells #[.int .i64 3, .slice (some ⟨w2.heap.size, 0, none⟩) 3 3] 35) := ⟨_, rfl⟩
  have B6 : Hid (Below w5.heap.size w5 w6) := by show Below _ _ _; rw [hw6]; exact (Below.refl _ _).alloc (Nat.le_refl _) _
  have hr6 : w6.heap[w5.heap.size]? = some (.cells #[.int .i64 3, .slice (some ⟨w2.heap.size, 0, none⟩) 3 3] 35 (0, 0)) := by rw [hw6]; exact heap_alloc_new w5 _
  have B46 : Hid (Below w4.heap.size w4 w6) := B5.out.trans (B6.out.mono B5.out.size)
  have hrow6 : RwC w6 w6.heap.size (some ⟨w5.heap.size, 0, none⟩) 1 [rH] := RwC.one (r := rH) hr6 ((RD.out w6 ((B46.out.block _ (Array.getElem?_eq_some_iff.1 T4.out).1).trans T4.out)).more (by have := (Array.getElem?_eq_some_iff.1 T4.out).1; have := B46.out.size; omega)) (Nat.le_refl _) (by decide)
  have CS1 := Lib.hid (rsameR_any A5 (some ⟨w5.heap.size, 0, none⟩) 1 c5 1 1 w6.heap.size [rH] [rH] w6 ((R5.out.belowB B6.out).moreB B6.out.size) hrow6 (Nat.le_refl _) (by decide))
  have HW6 := Lib.hid hw6
  clear hw6 hr6 hrow6
  go_wp2_with (first
    | (go_at_call 24; rw [← HW6.out]; refine CS1.out.mono ?_; rintro e w7 ⟨r7, rfl, hr7, hb7⟩; obtain rfl : r7 = true := (by simpa using hr7); have B7 := Lib.hid (B46.out.trans (hb7.mono B46.out.size)); have B57 := Lib.hid (B6.out.trans (hb7.mono B6.out.size)); clear hr7 hb7)
    | fail)
  have hZ : [] = (⟨0, []⟩ : Rcd).dat := rfl
  have CA7 := wAppendO_any X w7 (B := w.heap.size) (gd := gd) (g := gw) none 0 0 ⟨0, []⟩ (fun W hW => HA.out W ((B4.out.trans (B7.out.mono B4.out.size)).trans hW)) (Nat.le_trans B4.out.size B7.out.size) (D4.out.below B7.out) (W4.out.below B7.out) HDI4.out I4.out (by decide) (by rw [HL4.out]; decide) (fun W hW => Rd.nil_) (Nat.le_refl _) (Nat.zero_le _)
  have hz7 : ∀ x, fitZ [(⟨0, []⟩ : Rcd)] x = 140 := fun x => fitZ_no (r := ⟨0, []⟩) x (List.mem_singleton.2 rfl) (by decide)
  rw [hz7] at CA7
  unfold recV at CA7
  have CA7 := Lib.hid CA7
  clear hz7 hZ
  go_wp2_with fail
  refine CA7.out.mono ?_
  rintro e w8 h8
  rcases h8 with ⟨-, rfl, hb8⟩ | ⟨h8, -⟩
  case inr => exact absurd h8 (by decide)
  have B8 : Hid (Below w4.heap.size w4 w8) := B7.out.trans (hb8.mono B7.out.size)
  have B58 : Hid (Below w5.heap.size w5 w8) := B57.out.trans (hb8.mono B57.out.size)
  have CM := wRoom_any w8 (W4.out.below B8.out) (fun _ => ⟨by decide, by decide, I4.out.fit⟩)
  have hrm : (0 : Int) < Ws.room ⟨0, 8, turnN 0 0, 0 + (rH.dat.length + 7), [] ++ [rH], false⟩ := by decide
  have CM := Lib.hid CM
  obtain ⟨rm, hrm2⟩ : ∃ rm, rm = Ws.room ⟨0, 8, turnN 0 0, 0 + (rH.dat.length + 7), [] ++ [rH], false⟩ := ⟨_, rfl⟩
  rw [← hrm2] at CM hrm
  have CC := Lib.hid (fun W (hW : Below w8.heap.size w8 W) => wRecords_any W ((W4.out.below B8.out).below hW))
  unfold RcsR at CC
  clear hb8 hrm2 CA7
  go_wp2_with (first
    | (go_at_call 16; refine CM.out.mono ?_; rintro e w9 ⟨rfl, hb9⟩; have B9 := Lib.hid hb9; clear hb9)
    | (go_at_call 22; refine (CC.out _ B9.out).mono ?_; rintro e w10 ⟨hb10, v10, q10, rfl, hs10, hq10⟩; have hq11 : q10.map (·.1) = [rH] := hq10; have hl10 : q10.length = 1 := (by have := congrArg List.length hq11; simpa using this); obtain ⟨A10, c10, rfl, -, hr10⟩ := hs10.rw; rw [hl10, hq11] at hr10; rw [hl10]; have R10 := Lib.hid hr10; have B10 := Lib.hid (B9.out.trans (hb10.mono B9.out.size)); clear hb10 hs10 hq10 hq11 hr10 hl10)
    | (go_at_call 24; refine (rsameR_any A10 A5 1 c10 1 c5 w10.heap.size [rH] [rH] w10 R10.out ((R5.out.belowB (B58.out.trans (B10.out.mono B58.out.size))).moreB (Nat.le_trans B58.out.size B10.out.size)) (Nat.le_refl _) (by decide)).mono ?_; rintro e w11 ⟨r11, rfl, hr11, hb11⟩; obtain rfl : r11 = true := (by simpa using hr11); have B11 := Lib.hid (B10.out.trans (hb11.mono B10.out.size)); clear hr11 hb11)
    | fail)
  go_ret
  exact ⟨rfl, B4.out.trans ((B8.out.trans (B11.out.mono B8.out.size)).mono B4.out.size)⟩
end Go.Proofs.YtahgaogmcffglaaDoor
