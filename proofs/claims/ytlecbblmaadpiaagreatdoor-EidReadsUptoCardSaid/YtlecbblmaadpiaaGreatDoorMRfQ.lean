/- Parse of layer 4's reference. (Made by gen/RfQ.py.) -/
import Derived.Test.YtlecbblmaadpiaaGreatDoorMEidH
import Derived.Test.YtlecbblmaadpiaaGreatDoorMRfP
import Derived.Laws.DeepStrings4
namespace Go.Proofs.YtlecbblmaadpiaaGreatDoor
open Go.RowKit
open Go.Lib (decDigits)
theorem str_from (l : List UInt8) (s : ByteArray) (hl : s.data.toList = l) (k : Int) (m : Nat) (hk : k = (m : Int)) (hm : m ≤ l.length) (W : World) : (Instr.slice 9 (.string s) (some (.int .i64 k)) none none).run Tryz.prog W = .ok (.string (strL (l.drop m))) W := by
  have hz : s.size = l.length := by rw [Lib.size_eq, hl]
  rw [run_slice_string_from_if W _ _ _ _ Tryz.underlying9, if_pos (by omega)]
  congr 2
  rw [Lib.extract_eq, hl, hk, Int.toNat_natCast]
  unfold strL
  rw [List.take_of_length_le (by rw [List.length_drop]; omega)]
theorem str_mid (l : List UInt8) (s : ByteArray) (hl : s.data.toList = l) (i k : Int) (p m : Nat) (hi : i = (p : Int)) (hk : k = (m : Int)) (hp : p ≤ m) (hm : m ≤ l.length) (W : World) : (Instr.slice 9 (.string s) (some (.int .i64 i)) (some (.int .i64 k)) none).run Tryz.prog W = .ok (.string (strL ((l.drop p).take (m - p)))) W := by
  have hz : s.size = l.length := by rw [Lib.size_eq, hl]
  rw [run_slice_string_if W _ _ _ _ _ _ Tryz.underlying9, if_pos (by omega), if_pos (by omega)]
  congr 2
  rw [Lib.extract_eq, hl, hi, hk, Int.toNat_natCast, Int.toNat_natCast]
  rfl
theorem text_len4 {e : Epd} (hc : checkB e = true) : 4 ≤ (textE e).length := by
  rcases text_head hc with h | h <;> (rw [prefix_split h]; simp [dtnL, ipnL])
theorem ahead_last {c : UInt8} : ∀ (l : List UInt8) (h : (ahead c l).length < l.length), l[(ahead c l).length]'h = c
  | [], h => by simp at h
  | x :: r, h => by
    by_cases hx : x = c
    · simp only [ahead_cons, if_pos hx] at h ⊢
      exact hx
    · simp only [ahead_cons, if_neg hx, List.length_cons, List.getElem_cons_succ] at h ⊢
      exact ahead_last r (by omega)
theorem ahead_ne {c : UInt8} : ∀ (l : List UInt8) (j : Nat) (h : j < l.length), j < (ahead c l).length → l[j]'h ≠ c
  | [], _, h, _ => by simp at h
  | x :: r, j, h, hj => by
    by_cases hx : x = c
    · rw [ahead_cons, if_pos hx] at hj; simp at hj
    · rw [ahead_cons, if_neg hx] at hj
      cases j with
      | zero => exact hx
      | succ j => exact ahead_ne r j (by simpa using h) (by simpa using hj)
set_option maxRecDepth 100000 in
set_option maxHeartbeats 16000000 in
theorem rparse_any (s : ByteArray) (w : World) (hs : s.size ≤ 140737488355328) :
    Calls Tryz.prog 26 #[.string s] w (ParsE s.data.toList w) := by
  have hsz : s.size = s.data.toList.length := Lib.size_eq s
  have hsT : s.toList = s.data.toList := Lib.toList_data s
  have HIX := Lib.hid (str_ix s)
  obtain ⟨l, hl⟩ : ∃ l, l = s.data.toList := ⟨_, rfl⟩
  have HL := Lib.hid hl
  rw [← hl] at hsz hsT ⊢
  have HSZ := Lib.hid hsz
  have HS := Lib.hid hs
  have HB0 : Hid (Below w.heap.size w (w.alloc (.cells #[.int .i64 0, .string ⟨#[]⟩, .int .u64 0, .int .u64 0] 25))) := (Below.refl _ _).alloc (Nat.le_refl _) _
  have HS0 : Hid ((w.alloc (.cells #[.int .i64 0, .string ⟨#[]⟩, .int .u64 0, .int .u64 0] 25)).heap.size = w.heap.size + 1) := by show _ = _; simp
  have HW0 : Hid (Below (w.heap.size + 1) (w.alloc (.cells #[.int .i64 0, .string ⟨#[]⟩, .int .u64 0, .int .u64 0] 25)) (w.alloc (.cells #[.int .i64 0, .string ⟨#[]⟩, .int .u64 0, .int .u64 0] 25))) := Below.refl _ _
  have HZ := Lib.hid (fun (W : World) (hb : Below (w.heap.size + 1) (w.alloc (.cells #[.int .i64 0, .string ⟨#[]⟩, .int .u64 0, .int .u64 0] 25)) W) => zeroE (g := w.heap.size) rfl hb)
  have HNO : Hid (∀ e w', (∀ e0, checkB e0 = true → textE e0 ≠ l) → Below w.heap.size w w' → e = .returned (.tuple #[epdV 0 ⟨#[]⟩ 0 0, .int .i64 40]) → ParsE l w e w') := fun _ _ h1 h2 h3 => ⟨h2, .inr ⟨h1, h3⟩⟩
  have HYES : Hid (∀ e w' sc sm n v, (sm.size ≤ l.length ∧ n < 18446744073709551616 ∧ v < 18446744073709551616 ∧ checkB (ep sc sm n v) = true ∧ textE (ep sc sm n v) = l) → Below w.heap.size w w' → e = .returned (.tuple #[epdV sc sm n v, .int .i64 0]) → ParsE l w e w') := fun _ _ sc sm n v h1 h2 h3 => ⟨h2, .inl ⟨sc, sm, n, v, h3, h1⟩⟩
  clear hs hl hsz
  by_cases h4 : l.length < 4
  · have d4 : decide ((s.size : Int) < 4) = true := decide_eq_true (by have := HSZ.out; omega)
    have HN : Hid (∀ e0, checkB e0 = true → textE e0 ≠ l) := fun e0 hc e => by have := text_len4 hc; rw [e] at this; omega
    obtain ⟨⟨z0, z1, z2, z3⟩, f0, f1, f2, f3⟩ := HZ.out _ HW0.out
    clear h4 hsT
    go_enter Tryz.func26, Tryz.ntmps26
    go_wp2_with fail
    refine bodyPost_ret (v := .tuple #[epdV 0 ⟨#[]⟩ 0 0, .int .i64 40]) (by simp [results, Tryz.results26, go_sem, epdV, z0, z1, z2, z3]) rfl (HNO.out _ _ HN.out (by first | exact HB0.out | exact below_put4 (HB0.out) (Nat.le_refl _)) rfl)
  have h4n : 4 ≤ l.length := by omega
  have d4 : decide ((s.size : Int) < 4) = false := decide_eq_false (by have := HSZ.out; omega)
  have d4n : ¬ s.size < 4 := by have := HSZ.out; omega
  have X1 := Lib.hid (str_from l s HL.out.symm 4 4 rfl h4n)
  have X2 := Lib.hid (str_to l s HL.out.symm 4 4 rfl h4n)
  clear h4
  have HP4 : Hid ((strL (l.take 4)).toList = l.take 4) := by show _ = _; rw [Lib.toList_data, strL_list]
  have HN4 : Hid ((strL (l.drop 4)).data.toList = l.drop 4) := strL_list _
  have HN4s : Hid ((strL (l.drop 4)).size ≤ l.length) := by show _ ≤ _; rw [strL_size, List.length_drop]; omega
  have HSL : Hid (l.length ≤ 140737488355328) := by show _ ≤ _; have := HSZ.out; have := HS.out; omega
  by_cases hnn : l = dtnL ++ noneL
  · have es1 : (s.toList == [100, 116, 110, 58, 110, 111, 110, 101]) = true := by rw [Lib.toList_data, ← HL.out, hnn]; rfl
    have es2 : ([100, 116, 110, 58, 110, 111, 110, 101] == s.toList) = true := by rw [Lib.toList_data, ← HL.out, hnn]; rfl
    have HC : Hid (Could l (some (ep 1 ⟨#[]⟩ 0 0))) := by show Could _ _; rw [hnn]; exact could_none
    have HCS : Hid ((⟨#[]⟩ : ByteArray).size ≤ l.length) := Nat.zero_le _
    have x1 := X1.out
    have x2 := X2.out
    have t2 : ((strL (l.take 4)).toList == [105, 112, 110, 58]) = false := by rw [HP4.out, hnn]; rfl
    generalize strL (l.take 4) = P4 at *
    generalize strL (l.drop 4) = N4 at *
    clear hnn hsT HIX X1 X2
    go_enter Tryz.func26, Tryz.ntmps26
    go_wp2_with fail
    refine (rcheckE_any 1 ⟨#[]⟩ 0 0 _ (by decide)).mono ?_
    rintro e w1 ⟨rfl, hb⟩
    have hs1 : (w.alloc (.cells #[.int .i64 0, .string ⟨#[]⟩, .int .u64 0, .int .u64 0] 25)).heap.size = w.heap.size + 1 := by simp
    obtain ⟨g0, g1, g2, g3⟩ := box_cells4 hb
    rw [hs1] at g0 g1 g2 g3
    clear hs1
    have hbz : Below (w.heap.size + 1) (w.alloc (.cells #[.int .i64 0, .string ⟨#[]⟩, .int .u64 0, .int .u64 0] 25)) w1 := ((Below.refl _ _).alloc (by simp) _).trans (hb.mono (by simp))
    obtain ⟨⟨z0, z1, z2, z3⟩, f0, f1, f2, f3⟩ := HZ.out w1 hbz
    have B1 := Lib.hid hbz
    have Q1 := Lib.hid hb
    clear hb hbz
    cases hc : checkB (ep 1 ⟨#[]⟩ 0 0) with
    | false =>
      have HN : Hid (∀ e0, checkB e0 = true → textE e0 ≠ l) := fun e0 h1 h2 => by
        have h3 := HC.out e0 h1 h2
        injection h3 with h3
        rw [← h3, hc] at h1
        cases h1
      clear hc
      go_wp2_with fail
      refine bodyPost_ret (v := .tuple #[epdV 0 ⟨#[]⟩ 0 0, .int .i64 40]) (by simp [results, Tryz.results26, go_sem, epdV, z0, z1, z2, z3]) rfl (HNO.out _ _ HN.out (by first | exact HB0.out.trans (B1.out.mono (Nat.le_succ _)) | exact below_put4 (HB0.out.trans (B1.out.mono (Nat.le_succ _))) (Nat.le_refl _)) rfl)
    | true =>
      go_wp2_with fail
      refine (rtextE_any 1 ⟨#[]⟩ 0 0 _ (by decide) (by decide) (by decide)).mono ?_
      rintro e w2 ⟨rfl, hb⟩
      have hbz := B1.out.trans (hb.mono (by have := B1.out.size; have := HS0.out; omega))
      have g0' := (hb.cell (p := ⟨w.heap.size + 1, 0, none⟩) (World.block_lt_of_cell? w1 _ g0)).trans g0
      have g1' := (hb.cell (p := ⟨w.heap.size + 1, 1, none⟩) (World.block_lt_of_cell? w1 _ g1)).trans g1
      have g2' := (hb.cell (p := ⟨w.heap.size + 1, 2, none⟩) (World.block_lt_of_cell? w1 _ g2)).trans g2
      have g3' := (hb.cell (p := ⟨w.heap.size + 1, 3, none⟩) (World.block_lt_of_cell? w1 _ g3)).trans g3
      have B2 := Lib.hid hbz
      clear z0 z1 z2 z3 f0 f1 f2 f3 g0 g1 g2 g3 hb hbz
      obtain ⟨⟨z0, z1, z2, z3⟩, f0, f1, f2, f3⟩ := HZ.out w2 B2.out
      have eT : (strL (textE (ep 1 ⟨#[]⟩ 0 0))).toList = textE (ep 1 ⟨#[]⟩ 0 0) := by rw [Lib.toList_data, strL_list]
      have eS : s.toList = l := by rw [Lib.toList_data, ← HL.out]
      by_cases ht : textE (ep 1 ⟨#[]⟩ 0 0) = l
      · have HT := Lib.hid ht
        have HCC := Lib.hid hc
        have t9 : ((strL (textE (ep 1 ⟨#[]⟩ 0 0))).toList == s.toList) = true := by rw [eT, eS, ht]; simp
        generalize strL (textE (ep 1 ⟨#[]⟩ 0 0)) = ST at *
        clear eT eS ht hc
        go_wp2_with fail
        refine bodyPost_ret (v := .tuple #[epdV 1 ⟨#[]⟩ 0 0, .int .i64 0]) (by simp [results, Tryz.results26, go_sem, epdV, z0, z1, z2, z3]) rfl (HYES.out _ _ _ _ _ _ ⟨by first | exact HCS.out | omega, (by decide), (by decide), HCC.out, HT.out⟩ (by first | exact HB0.out.trans (B2.out.mono (Nat.le_succ _)) | exact below_put4 (HB0.out.trans (B2.out.mono (Nat.le_succ _))) (Nat.le_refl _)) rfl)
      · have t9 : ((strL (textE (ep 1 ⟨#[]⟩ 0 0))).toList == s.toList) = false := by rw [eT, eS]; simpa using ht
        have HN : Hid (∀ e0, checkB e0 = true → textE e0 ≠ l) := fun e0 h1 h2 => by
          have h3 := HC.out e0 h1 h2
          injection h3 with h3
          rw [← h3] at h2
          exact ht h2
        generalize strL (textE (ep 1 ⟨#[]⟩ 0 0)) = ST at *
        clear eT eS ht hc
        go_wp2_with fail
        refine bodyPost_ret (v := .tuple #[epdV 0 ⟨#[]⟩ 0 0, .int .i64 40]) (by simp [results, Tryz.results26, go_sem, epdV, z0, z1, z2, z3]) rfl (HNO.out _ _ HN.out (by first | exact HB0.out.trans (B2.out.mono (Nat.le_succ _)) | exact below_put4 (HB0.out.trans (B2.out.mono (Nat.le_succ _))) (Nat.le_refl _)) rfl)
  obtain ⟨hne1, hne2⟩ := str_ne (s := s) (l := [100, 116, 110, 58, 110, 111, 110, 101]) (by rw [← HL.out]; exact hnn)
  have x1 := X1.out
  have x2 := X2.out
  by_cases hip : l.take 4 = ipnL
  case neg =>
    have t2 : ((strL (l.take 4)).toList == [105, 112, 110, 58]) = false := by rw [HP4.out, beq_eq_false_iff_ne]; exact hip
    have HC : Hid (Could l (some (ep 1 (strL (l.drop 4)) 0 0))) := by
      show Could _ _
      unfold ep
      rw [HN4.out]
      intro e0 h1 h2
      have hd : Lib.hasPrefix l dtnL = true := by
        rcases text_head h1 with h | h
        · rw [h2] at h; exact h
        · rw [h2] at h
          exact absurd (by have := prefix_split h; rw [this]; rfl) hip
      have hl2 : l = dtnL ++ l.drop 4 := prefix_split hd
      exact could_dtn (l := l.drop 4) (fun e => hnn (by rw [hl2, e])) e0 h1 (h2.trans hl2)
    have HCS := HN4s
    have HM : Hid ((strL (l.drop 4)).size ≤ 140737488355328) := Nat.le_trans HN4s.out HSL.out
    generalize strL (l.take 4) = P4 at *
    generalize strL (l.drop 4) = N4 at *
    clear hip hnn X1 X2 hsT
    go_enter Tryz.func26, Tryz.ntmps26
    go_wp2_with fail
    refine (rcheckE_any 1 N4 0 0 _ HM.out).mono ?_
    rintro e w1 ⟨rfl, hb⟩
    have hs1 : (w.alloc (.cells #[.int .i64 0, .string ⟨#[]⟩, .int .u64 0, .int .u64 0] 25)).heap.size = w.heap.size + 1 := by simp
    obtain ⟨g0, g1, g2, g3⟩ := box_cells4 hb
    rw [hs1] at g0 g1 g2 g3
    clear hs1
    have hbz : Below (w.heap.size + 1) (w.alloc (.cells #[.int .i64 0, .string ⟨#[]⟩, .int .u64 0, .int .u64 0] 25)) w1 := ((Below.refl _ _).alloc (by simp) _).trans (hb.mono (by simp))
    obtain ⟨⟨z0, z1, z2, z3⟩, f0, f1, f2, f3⟩ := HZ.out w1 hbz
    have B1 := Lib.hid hbz
    have Q1 := Lib.hid hb
    clear hb hbz
    cases hc : checkB (ep 1 N4 0 0) with
    | false =>
      have HN : Hid (∀ e0, checkB e0 = true → textE e0 ≠ l) := fun e0 h1 h2 => by
        have h3 := HC.out e0 h1 h2
        injection h3 with h3
        rw [← h3, hc] at h1
        cases h1
      clear hc
      go_wp2_with fail
      refine bodyPost_ret (v := .tuple #[epdV 0 ⟨#[]⟩ 0 0, .int .i64 40]) (by simp [results, Tryz.results26, go_sem, epdV, z0, z1, z2, z3]) rfl (HNO.out _ _ HN.out (by first | exact HB0.out.trans (B1.out.mono (Nat.le_succ _)) | exact below_put4 (HB0.out.trans (B1.out.mono (Nat.le_succ _))) (Nat.le_refl _)) rfl)
    | true =>
      go_wp2_with fail
      refine (rtextE_any 1 N4 0 0 _ HM.out (by decide) (by decide)).mono ?_
      rintro e w2 ⟨rfl, hb⟩
      have hbz := B1.out.trans (hb.mono (by have := B1.out.size; have := HS0.out; omega))
      have g0' := (hb.cell (p := ⟨w.heap.size + 1, 0, none⟩) (World.block_lt_of_cell? w1 _ g0)).trans g0
      have g1' := (hb.cell (p := ⟨w.heap.size + 1, 1, none⟩) (World.block_lt_of_cell? w1 _ g1)).trans g1
      have g2' := (hb.cell (p := ⟨w.heap.size + 1, 2, none⟩) (World.block_lt_of_cell? w1 _ g2)).trans g2
      have g3' := (hb.cell (p := ⟨w.heap.size + 1, 3, none⟩) (World.block_lt_of_cell? w1 _ g3)).trans g3
      have B2 := Lib.hid hbz
      clear z0 z1 z2 z3 f0 f1 f2 f3 g0 g1 g2 g3 hb hbz
      obtain ⟨⟨z0, z1, z2, z3⟩, f0, f1, f2, f3⟩ := HZ.out w2 B2.out
      have eT : (strL (textE (ep 1 N4 0 0))).toList = textE (ep 1 N4 0 0) := by rw [Lib.toList_data, strL_list]
      have eS : s.toList = l := by rw [Lib.toList_data, ← HL.out]
      by_cases ht : textE (ep 1 N4 0 0) = l
      · have HT := Lib.hid ht
        have HCC := Lib.hid hc
        have t9 : ((strL (textE (ep 1 N4 0 0))).toList == s.toList) = true := by rw [eT, eS, ht]; simp
        generalize strL (textE (ep 1 N4 0 0)) = ST at *
        clear eT eS ht hc
        go_wp2_with fail
        refine bodyPost_ret (v := .tuple #[epdV 1 N4 0 0, .int .i64 0]) (by simp [results, Tryz.results26, go_sem, epdV, z0, z1, z2, z3]) rfl (HYES.out _ _ _ _ _ _ ⟨by first | exact HCS.out | omega, (by decide), (by decide), HCC.out, HT.out⟩ (by first | exact HB0.out.trans (B2.out.mono (Nat.le_succ _)) | exact below_put4 (HB0.out.trans (B2.out.mono (Nat.le_succ _))) (Nat.le_refl _)) rfl)
      · have t9 : ((strL (textE (ep 1 N4 0 0))).toList == s.toList) = false := by rw [eT, eS]; simpa using ht
        have HN : Hid (∀ e0, checkB e0 = true → textE e0 ≠ l) := fun e0 h1 h2 => by
          have h3 := HC.out e0 h1 h2
          injection h3 with h3
          rw [← h3] at h2
          exact ht h2
        generalize strL (textE (ep 1 N4 0 0)) = ST at *
        clear eT eS ht hc
        go_wp2_with fail
        refine bodyPost_ret (v := .tuple #[epdV 0 ⟨#[]⟩ 0 0, .int .i64 40]) (by simp [results, Tryz.results26, go_sem, epdV, z0, z1, z2, z3]) rfl (HNO.out _ _ HN.out (by first | exact HB0.out.trans (B2.out.mono (Nat.le_succ _)) | exact below_put4 (HB0.out.trans (B2.out.mono (Nat.le_succ _))) (Nat.le_refl _)) rfl)
  obtain ⟨m, hm⟩ : ∃ m, m = l.drop 4 := ⟨_, rfl⟩
  have hlm : l = ipnL ++ m := by rw [hm, ← hip, List.take_append_drop]
  have HLM := Lib.hid hlm
  have HM4 : Hid (l.length = m.length + 4) := by show _ = _; rw [hlm]; simp [ipnL]
  have t2 : ((strL (l.take 4)).toList == [105, 112, 110, 58]) = true := by rw [HP4.out, hip]; rfl
  obtain ⟨d, hd⟩ : ∃ d, d = (ahead 46 m).length := ⟨_, rfl⟩
  have hdm : d ≤ m.length := by rw [hd]; exact ahead_le 46 m
  have HIM : Hid (∀ (j : Nat) (hj : j < m.length) (W : World), (Instr.index 9 (.string s) (.int .i64 ((j + 4 : Nat) : Int))).run Tryz.prog W = .ok (.int .u8 ((m[j]'hj).toNat)) W) := fun j hj W => by
    have h1 : j + 4 < s.data.toList.length := by rw [← HL.out, HM4.out]; omega
    rw [HIX.out (j + 4) h1 W]
    have e : s.data.toList[j + 4]'h1 = m[j]'hj := by simp only [← HL.out, hm, List.getElem_drop]; congr 1; omega
    rw [e]
  have NE := Lib.hid (ahead_ne (c := 46) m)
  have AT := Lib.hid (ahead_last (c := 46) m)
  have HD := Lib.hid hd
  have CNM := Lib.hid (fun (t : ByteArray) (h : t.size ≤ 140737488355328) => rnumber4_any t ((w.alloc (.cells #[.int .i64 0, .string ⟨#[]⟩, .int .u64 0, .int .u64 0] 25)).alloc (.cells #[.int .i64 1, .string (strL (l.drop 4)), .int .u64 0, .int .u64 0] 25)) h)
  generalize strL (l.take 4) = P4 at *
  generalize strL (l.drop 4) = N4 at *
  clear hip hnn hlm hm hd hsT HIX X1 X2 HP4 HN4 HN4s
  go_enter Tryz.func26, Tryz.ntmps26
  go_wp2_with fail
  go_loop [5] (fun i => ∃ (j I : Nat), j ≤ d ∧ Hid (I = j + 4) ∧ i = .int .i64 (I : Int)) (fun i => d + 4 - (intOf i).toNat)
  case atStart => exact ⟨0, 4, Nat.zero_le _, rfl, rfl⟩
  case round =>
    obtain ⟨j, I, hj, hI, rfl⟩ := hrel
    by_cases hjd : j < d
    · have hjm : j < m.length := by omega
      have hne := NE.out j hjm (by rw [← HD.out]; exact hjd)
      have hix : ∀ W, (Instr.index 9 (.string s) (.int .i64 (I : Int))).run Tryz.prog W = .ok (.int .u8 ((m[j]'hjm).toNat : Int)) W := fun W => by
        have := HIM.out j hjm W
        rw [← hI.out] at this
        exact this
      have hc : (((m[j]'hjm).toNat : Int) != 46) = true := by
        have : (m[j]'hjm).toNat ≠ 46 := fun e => hne (UInt8.toNat_inj.1 (by simpa using e))
        rw [bne_iff_ne]
        omega
      generalize (m[j]'hjm).toNat = C at *
      have hkk : (I : Int) < (s.size : Int) := by have := HSZ.out; have := HM4.out; have := hI.out; omega
      have hkd : decide ((I : Int) < (s.size : Int)) = true := decide_eq_true hkk
      have hIb : I ≤ 140737488355332 := by have := HSL.out; have := HM4.out; have := hI.out; omega
      clear hne hjm
      go_wp2_with fail
      go_round
      case rel => exact ⟨j + 1, I + 1, by omega, by show _ = _; have := hI.out; omega, by go_num⟩
      case measure => simp [intOf]; have := hI.out; omega
    · have hje : j = d := by omega
      by_cases hdl : d < m.length
      case neg =>
        have hkk : ¬ (I : Int) < (s.size : Int) := by have := HSZ.out; have := HM4.out; have := hI.out; omega
        have hkd : decide ((I : Int) < (s.size : Int)) = false := decide_eq_false hkk
        have hkq : ¬ I < s.size := by omega
        have heq : ((I : Int) == (s.size : Int)) = true := by have := HSZ.out; have := HM4.out; have := hI.out; rw [beq_iff_eq]; omega
        have HN : Hid (∀ e0, checkB e0 = true → textE e0 ≠ l) := fun e0 h1 h2 => by
          have hh : hasB 46 m = false := by unfold hasB; rw [← HD.out]; exact decide_eq_false hdl
          have h3 := could_ipn m none (fun n v _ _ e => by rw [e] at hh; rw [(has_app (dec_no_dot n)).1] at hh; cases hh) e0 h1 (h2.trans HLM.out)
          cases h3
        obtain ⟨⟨z0, z1, z2, z3⟩, f0, f1, f2, f3⟩ := HZ.out ((w.alloc (.cells #[.int .i64 0, .string ⟨#[]⟩, .int .u64 0, .int .u64 0] 25)).alloc (.cells #[.int .i64 1, .string N4, .int .u64 0, .int .u64 0] 25)) ((Below.refl _ _).alloc (by simp) _)
        clear hje hdl hjd
        go_wp2_with fail
        refine bodyPost_ret (v := .tuple #[epdV 0 ⟨#[]⟩ 0 0, .int .i64 40]) (by simp [results, Tryz.results26, go_sem, epdV, z0, z1, z2, z3]) rfl (HNO.out _ _ HN.out (by first | exact HB0.out.alloc (le_alloc _ _) _ | exact below_put4 (HB0.out.alloc (le_alloc _ _) _) (Nat.le_refl _)) rfl)
      have hh : hasB 46 m = true := by unfold hasB; rw [← HD.out]; exact decide_eq_true hdl
      have hcut := cut_eq hh
      have hix : ∀ W, (Instr.index 9 (.string s) (.int .i64 (I : Int))).run Tryz.prog W = .ok (.int .u8 46) W := fun W => by
        have h1 := HIM.out d hdl W
        have h2 : m[d]'hdl = 46 := by
          have := AT.out (by rw [← HD.out]; exact hdl)
          simp only [← HD.out] at this
          exact this
        rw [h2] at h1
        have e : ((d + 4 : Nat) : Int) = (I : Int) := by have := hI.out; omega
        rw [e] at h1
        exact h1
      have hkk : (I : Int) < (s.size : Int) := by have := HSZ.out; have := HM4.out; have := hI.out; omega
      have hkd : decide ((I : Int) < (s.size : Int)) = true := decide_eq_true hkk
      have heq : ((I : Int) == (s.size : Int)) = false := by rw [beq_eq_false_iff_ne]; omega
      have hI1 : wrap64 ((I : Int) + 1) = ((I + 1 : Nat) : Int) := by have := HSZ.out; have := HS.out; unfold wrap64; omega
      obtain ⟨J, hJ⟩ : ∃ J, J = I + 1 := ⟨_, rfl⟩
      rw [← hJ] at hI1
      have e1 : (l.drop 4).take (I - 4) = ahead 46 m := by
        have : l.drop 4 = m := by rw [HLM.out]; rfl
        rw [this, ahead_take 46 m]
        congr 1
        have := hI.out; have := HD.out; omega
      have e2 : l.drop J = behind 46 m := by
        have : l.drop J = m.drop (d + 1) := by
          rw [HLM.out, hJ, hI.out, hje]
          show (ipnL ++ m).drop (d + 4 + 1) = _
          rw [show d + 4 + 1 = ipnL.length + (d + 1) from by simp [ipnL]; omega, List.drop_append]
          simp
        rw [this]; unfold behind; rw [← HD.out]
      have y1 := str_mid l s HL.out.symm 4 (I : Int) 4 I rfl rfl (by have := hI.out; omega) (by have := HSZ.out; omega)
      have y2 := str_from l s HL.out.symm (J : Int) J rfl (by have := HSZ.out; omega)
      rw [e1] at y1
      rw [e2] at y2
      obtain ⟨SA, hSA⟩ : ∃ S, S = strL (ahead 46 m) := ⟨_, rfl⟩
      obtain ⟨SBh, hSB⟩ : ∃ S, S = strL (behind 46 m) := ⟨_, rfl⟩
      rw [← hSA] at y1
      rw [← hSB] at y2
      have HSA : Hid (SA.data.toList = ahead 46 m) := by show _ = _; rw [hSA]; exact strL_list _
      have HSB : Hid (SBh.data.toList = behind 46 m) := by show _ = _; rw [hSB]; exact strL_list _
      have C1 := Lib.hid (CNM.out SA (by rw [Lib.size_eq, HSA.out]; have := ahead_le 46 m; have := HM4.out; have := HSL.out; omega))
      have C2 := Lib.hid (CNM.out SBh (by rw [Lib.size_eq, HSB.out]; unfold behind; rw [List.length_drop]; have := HM4.out; have := HSL.out; omega))
      rw [HSA.out] at C1
      rw [HSB.out] at C2
      clear hSA hSB e1 e2 hJ hcut hh hdl hje hjd
      go_wp2_with fail
      refine C1.out.mono ?_
      rintro e w1 ⟨v1, b1, rfl, hv1, hy1, hn1, rfl⟩
      have HY1 := Lib.hid (And.intro hy1 hn1)
      clear hy1 hn1
      go_wp2_with fail
      refine C2.out.mono ?_
      rintro e w2 ⟨v2, b2, rfl, hv2, hy2, hn2, rfl⟩
      have HY2 := Lib.hid (And.intro hy2 hn2)
      clear hy2 hn2
      have HCN : Hid (∀ (P : Prop), ((b1 = true ∧ b2 = true) → P) → True) := fun _ _ => trivial
      have HNO2 : Hid ((b1 = false ∨ b2 = false) → ∀ e0, checkB e0 = true → textE e0 ≠ l) := fun hb e0 h1 h2 => by
        have h3 := could_ipn m none (fun n v hn hv e => by
          have q1 : ahead 46 m = decDigits n := by rw [e]; exact (digits_cut n v).1
          have q2 : behind 46 m = decDigits v := by rw [e]; exact (digits_cut n v).2
          have r1 := (HY1.out.2 n hn q1).1
          have r2 := (HY2.out.2 v hv q2).1
          rcases hb with hb | hb
          · rw [r1] at hb; cases hb
          · rw [r2] at hb; cases hb) e0 h1 (h2.trans HLM.out)
        cases h3
      have HC : Hid (b1 = true → b2 = true → Could l (some (ep 2 ⟨#[]⟩ v1 v2))) := fun _ _ e0 h1 h2 => by
        exact could_ipn m (some ⟨2, [], v1, v2⟩) (fun n v hn hv e => by
          have q1 : ahead 46 m = decDigits n := by rw [e]; exact (digits_cut n v).1
          have q2 : behind 46 m = decDigits v := by rw [e]; exact (digits_cut n v).2
          rw [(HY1.out.2 n hn q1).2, (HY2.out.2 v hv q2).2]) e0 h1 (h2.trans HLM.out)
      obtain ⟨⟨z0, z1, z2, z3⟩, f0, f1, f2, f3⟩ := HZ.out ((w.alloc (.cells #[.int .i64 0, .string ⟨#[]⟩, .int .u64 0, .int .u64 0] 25)).alloc (.cells #[.int .i64 1, .string N4, .int .u64 0, .int .u64 0] 25)) ((Below.refl _ _).alloc (by simp) _)
      cases b1 with
      | false =>
        have HN := Lib.hid (HNO2.out (.inl rfl))
        go_wp2_with fail
        refine bodyPost_ret (v := .tuple #[epdV 0 ⟨#[]⟩ 0 0, .int .i64 40]) (by simp [results, Tryz.results26, go_sem, epdV, z0, z1, z2, z3]) rfl (HNO.out _ _ HN.out (by first | exact HB0.out.alloc (le_alloc _ _) _ | exact below_put4 (HB0.out.alloc (le_alloc _ _) _) (Nat.le_refl _)) rfl)
      | true =>
        cases b2 with
        | false =>
          have HN := Lib.hid (HNO2.out (.inr rfl))
          go_wp2_with fail
          refine bodyPost_ret (v := .tuple #[epdV 0 ⟨#[]⟩ 0 0, .int .i64 40]) (by simp [results, Tryz.results26, go_sem, epdV, z0, z1, z2, z3]) rfl (HNO.out _ _ HN.out (by first | exact HB0.out.alloc (le_alloc _ _) _ | exact below_put4 (HB0.out.alloc (le_alloc _ _) _) (Nat.le_refl _)) rfl)
        | true =>
          have HC2 := Lib.hid (HC.out rfl rfl)
          have HC2S : Hid ((⟨#[]⟩ : ByteArray).size ≤ l.length) := Nat.zero_le _
          clear z0 z1 z2 z3 f0 f1 f2 f3
          go_wp2_with fail
          refine (rcheckE_any 2 ⟨#[]⟩ v1 v2 _ (by decide)).mono ?_
          rintro e w1 ⟨rfl, hb⟩
          have hs1 : (w.alloc (.cells #[.int .i64 0, .string ⟨#[]⟩, .int .u64 0, .int .u64 0] 25)).heap.size = w.heap.size + 1 := by simp
          obtain ⟨g0, g1, g2, g3⟩ := box_cells4 hb
          rw [hs1] at g0 g1 g2 g3
          clear hs1
          have hbz : Below (w.heap.size + 1) (w.alloc (.cells #[.int .i64 0, .string ⟨#[]⟩, .int .u64 0, .int .u64 0] 25)) w1 := ((Below.refl _ _).alloc (by simp) _).trans (hb.mono (by simp))
          obtain ⟨⟨z0, z1, z2, z3⟩, f0, f1, f2, f3⟩ := HZ.out w1 hbz
          have B1 := Lib.hid hbz
          have Q1 := Lib.hid hb
          clear hb hbz
          cases hc : checkB (ep 2 ⟨#[]⟩ v1 v2) with
          | false =>
            have HN : Hid (∀ e0, checkB e0 = true → textE e0 ≠ l) := fun e0 h1 h2 => by
              have h3 := HC2.out e0 h1 h2
              injection h3 with h3
              rw [← h3, hc] at h1
              cases h1
            clear hc
            go_wp2_with fail
            refine bodyPost_ret (v := .tuple #[epdV 0 ⟨#[]⟩ 0 0, .int .i64 40]) (by simp [results, Tryz.results26, go_sem, epdV, z0, z1, z2, z3]) rfl (HNO.out _ _ HN.out (by first | exact HB0.out.trans (B1.out.mono (Nat.le_succ _)) | exact below_put4 (HB0.out.trans (B1.out.mono (Nat.le_succ _))) (Nat.le_refl _)) rfl)
          | true =>
            go_wp2_with fail
            refine (rtextE_any 2 ⟨#[]⟩ v1 v2 _ (by decide) hv1 hv2).mono ?_
            rintro e w2 ⟨rfl, hb⟩
            have hbz := B1.out.trans (hb.mono (by have := B1.out.size; have := HS0.out; omega))
            have g0' := (hb.cell (p := ⟨w.heap.size + 1, 0, none⟩) (World.block_lt_of_cell? w1 _ g0)).trans g0
            have g1' := (hb.cell (p := ⟨w.heap.size + 1, 1, none⟩) (World.block_lt_of_cell? w1 _ g1)).trans g1
            have g2' := (hb.cell (p := ⟨w.heap.size + 1, 2, none⟩) (World.block_lt_of_cell? w1 _ g2)).trans g2
            have g3' := (hb.cell (p := ⟨w.heap.size + 1, 3, none⟩) (World.block_lt_of_cell? w1 _ g3)).trans g3
            have B2 := Lib.hid hbz
            clear z0 z1 z2 z3 f0 f1 f2 f3 g0 g1 g2 g3 hb hbz
            obtain ⟨⟨z0, z1, z2, z3⟩, f0, f1, f2, f3⟩ := HZ.out w2 B2.out
            have eT : (strL (textE (ep 2 ⟨#[]⟩ v1 v2))).toList = textE (ep 2 ⟨#[]⟩ v1 v2) := by rw [Lib.toList_data, strL_list]
            have eS : s.toList = l := by rw [Lib.toList_data, ← HL.out]
            by_cases ht : textE (ep 2 ⟨#[]⟩ v1 v2) = l
            · have HT := Lib.hid ht
              have HCC := Lib.hid hc
              have t9 : ((strL (textE (ep 2 ⟨#[]⟩ v1 v2))).toList == s.toList) = true := by rw [eT, eS, ht]; simp
              generalize strL (textE (ep 2 ⟨#[]⟩ v1 v2)) = ST at *
              clear eT eS ht hc
              go_wp2_with fail
              refine bodyPost_ret (v := .tuple #[epdV 2 ⟨#[]⟩ v1 v2, .int .i64 0]) (by simp [results, Tryz.results26, go_sem, epdV, z0, z1, z2, z3]) rfl (HYES.out _ _ _ _ _ _ ⟨by first | exact HC2S.out | omega, hv1, hv2, HCC.out, HT.out⟩ (by first | exact HB0.out.trans (B2.out.mono (Nat.le_succ _)) | exact below_put4 (HB0.out.trans (B2.out.mono (Nat.le_succ _))) (Nat.le_refl _)) rfl)
            · have t9 : ((strL (textE (ep 2 ⟨#[]⟩ v1 v2))).toList == s.toList) = false := by rw [eT, eS]; simpa using ht
              have HN : Hid (∀ e0, checkB e0 = true → textE e0 ≠ l) := fun e0 h1 h2 => by
                have h3 := HC2.out e0 h1 h2
                injection h3 with h3
                rw [← h3] at h2
                exact ht h2
              generalize strL (textE (ep 2 ⟨#[]⟩ v1 v2)) = ST at *
              clear eT eS ht hc
              go_wp2_with fail
              refine bodyPost_ret (v := .tuple #[epdV 0 ⟨#[]⟩ 0 0, .int .i64 40]) (by simp [results, Tryz.results26, go_sem, epdV, z0, z1, z2, z3]) rfl (HNO.out _ _ HN.out (by first | exact HB0.out.trans (B2.out.mono (Nat.le_succ _)) | exact below_put4 (HB0.out.trans (B2.out.mono (Nat.le_succ _))) (Nat.le_refl _)) rfl)
end Go.Proofs.YtlecbblmaadpiaaGreatDoor
