/- What layer 4's only returns, and strings.Cut at one byte. -/
import Derived.Test.YtlecbblmaadpiaaGreatDoorMEidI1
namespace Go.Proofs.YtlecbblmaadpiaaGreatDoor
open Go.RowKit
set_option maxRecDepth 100000 in
set_option maxHeartbeats 1000000 in
theorem ls_any (x : UInt8) (b1 b2 : Nat) (w : World) (h : LsAt2 b1 b2 w) :
    Calls Tryz.prog 215 #[.int .u8 (x.toNat : Int), .pointer (some ⟨b1, 0, none⟩), .pointer (some ⟨b2, 0, none⟩)] w fun e w' => e = .returned (.bool (lsB x)) ∧ w = w' := by
  have h1 := h.f
  have h2 := h.s
  have C1 := Lib.hid (isletter_any x w)
  have C2 := Lib.hid (Tryz.strings_IndexByte ⟨#[47]⟩ (x.toNat : Int) w)
  have e2 : Lib.indexByte (⟨#[47]⟩ : ByteArray).data.toList (x.toNat : Int).toNat.toUInt8 = if x = 47 then 0 else -1 := by
    have ex : (x.toNat : Int).toNat.toUInt8 = x := by simp
    rw [ex]
    show Lib.indexByte [47] x = _
    simp only [Lib.indexByte]
    by_cases hx : x = 47
    · subst hx; rfl
    · have : ((47 : UInt8) == x) = false := beq_eq_false_iff_ne.2 (fun e => hx e.symm)
      rw [this, if_neg hx]; rfl
  have E2 := Lib.hid e2
  have hl : lsB x = (letterB x || decide (x = 47)) := by
    unfold lsB
    rw [Bool.or_comm]
    congr 1
  obtain ⟨R, hR⟩ : ∃ R, R = lsB x := ⟨_, rfl⟩
  rw [← hR]
  rw [← hR] at hl
  have HL := Lib.hid hl
  clear hl hR e2 h
  generalize Lib.indexByte (⟨#[47]⟩ : ByteArray).data.toList (x.toNat : Int).toNat.toUInt8 = I at *
  generalize letterB x = L at *
  generalize x.toNat = X at *
  go_enter Tryz.func215, Tryz.ntmps215
  go_wp2_with (first
    | (go_at_call 190; refine C1.out.mono ?_; rintro e w' ⟨rfl, rfl⟩; cases L)
    | (go_at_call 216; refine C2.out.mono ?_; rintro e w' ⟨rfl, rfl⟩)
    | fail)
  all_goals go_ret
  all_goals
    refine ⟨congrArg (fun b => Ending.returned (Value.bool b)) ((?_ : _ = _).trans HL.out.symm), rfl⟩
  all_goals (try rw [E2.out])
  all_goals (by_cases hx : x = 47 <;> simp [hx])
set_option maxRecDepth 100000 in
set_option maxHeartbeats 1000000 in
theorem only_letter (s : ByteArray) (w : World) (hs : s.size ≤ 140737488355328) :
    Calls Tryz.prog 189 #[.string s, .func (.func 190) #[] #[]] w fun e w' => e = .returned (.bool (s.data.toList.all letterB)) ∧ w = w' := by
  have hsz : s.size = s.data.toList.length := Lib.size_eq s
  obtain ⟨R, hR⟩ : ∃ R, R = s.data.toList.all letterB := ⟨_, rfl⟩
  rw [← hR]
  have HR := Lib.hid hR
  have HS := Lib.hid hsz
  clear hR hsz
  go_enter Tryz.func189, Tryz.ntmps189
  go_wp2_with fail
  go_loop [8] (fun i => ∃ k : Nat, k ≤ s.size ∧ i = .int .i64 k ∧ Hid ((s.data.toList.take k).all letterB = true)) (fun i => s.size - (intOf i).toNat)
  case atStart => exact ⟨0, Nat.zero_le _, rfl, by show _ = _; simp⟩
  case round =>
    obtain ⟨k, hk, rfl, hp⟩ := hrel
    by_cases hlt : k < s.size
    · have hkl : k < s.data.toList.length := by rw [← HS.out]; exact hlt
      obtain ⟨x, hx⟩ : ∃ x, x = s.data.toList[k]'hkl := ⟨_, rfl⟩
      have hix : ∀ W, (Instr.index 9 (.string s) (.int .i64 (k : Int))).run Tryz.prog W = .ok (.int .u8 x.toNat) W := by
        intro W
        rw [hx]
        go_simp
        rfl
      have hstep : (s.data.toList.take (k + 1)).all letterB = letterB x := by
        rw [List.take_succ_eq_append_getElem hkl, List.all_append, hp.out, Bool.true_and, ← hx]
        simp
      have HST := Lib.hid hstep
      have C1 := Lib.hid (isletter_any x w)
      clear hx hstep
      have hkk : decide ((k : Int) < (s.size : Int)) = true := by simp; omega
      cases hlx : letterB x with
      | true =>
        rw [hlx] at C1 HST
        go_wp2_with (first
          | (go_at_call 190; refine C1.out.mono ?_; rintro e w' ⟨rfl, rfl⟩)
          | fail)
        go_round
        case rel => exact ⟨k + 1, by omega, by go_num, HST.out⟩
        case measure => simp [intOf]; omega
      | false =>
        rw [hlx] at C1 HST
        have hf : R = false := by
          rw [HR.out, ← List.take_append_drop (k + 1) s.data.toList, List.all_append, HST.out, Bool.false_and]
        subst hf
        go_wp2_with (first
          | (go_at_call 190; refine C1.out.mono ?_; rintro e w' ⟨rfl, rfl⟩)
          | fail)
        go_ret
        exact ⟨rfl, rfl⟩
    · obtain rfl : k = s.size := by omega
      have e : R = true := by
        have h := hp.out
        rw [HS.out, List.take_length] at h
        rw [HR.out, h]
      subst e
      have hkk : decide ((s.size : Int) < (s.size : Int)) = false := by simp
      go_wp2_with fail
      go_ret
      exact ⟨rfl, rfl⟩
set_option maxRecDepth 100000 in
set_option maxHeartbeats 1000000 in
theorem only_ls (s : ByteArray) (b1 b2 : Nat) (w : World) (hat : LsAt2 b1 b2 w) (hs : s.size ≤ 140737488355328) :
    Calls Tryz.prog 189 #[.string s, lsFn b1 b2] w fun e w' => e = .returned (.bool (s.data.toList.all lsB)) ∧ w = w' := by
  unfold lsFn
  have hsz : s.size = s.data.toList.length := Lib.size_eq s
  obtain ⟨R, hR⟩ : ∃ R, R = s.data.toList.all lsB := ⟨_, rfl⟩
  rw [← hR]
  have HR := Lib.hid hR
  have HS := Lib.hid hsz
  clear hR hsz
  go_enter Tryz.func189, Tryz.ntmps189
  go_wp2_with fail
  go_loop [8] (fun i => ∃ k : Nat, k ≤ s.size ∧ i = .int .i64 k ∧ Hid ((s.data.toList.take k).all lsB = true)) (fun i => s.size - (intOf i).toNat)
  case atStart => exact ⟨0, Nat.zero_le _, rfl, by show _ = _; simp⟩
  case round =>
    obtain ⟨k, hk, rfl, hp⟩ := hrel
    by_cases hlt : k < s.size
    · have hkl : k < s.data.toList.length := by rw [← HS.out]; exact hlt
      obtain ⟨x, hx⟩ : ∃ x, x = s.data.toList[k]'hkl := ⟨_, rfl⟩
      have hix : ∀ W, (Instr.index 9 (.string s) (.int .i64 (k : Int))).run Tryz.prog W = .ok (.int .u8 x.toNat) W := by
        intro W
        rw [hx]
        go_simp
        rfl
      have hstep : (s.data.toList.take (k + 1)).all lsB = lsB x := by
        rw [List.take_succ_eq_append_getElem hkl, List.all_append, hp.out, Bool.true_and, ← hx]
        simp
      have HST := Lib.hid hstep
      have C1 := Lib.hid (ls_any x b1 b2 w hat)
      clear hx hstep
      have hkk : decide ((k : Int) < (s.size : Int)) = true := by simp; omega
      cases hlx : lsB x with
      | true =>
        rw [hlx] at C1 HST
        go_wp2_with (first
          | (go_at_call 215; refine C1.out.mono ?_; rintro e w' ⟨rfl, rfl⟩)
          | fail)
        go_round
        case rel => exact ⟨k + 1, by omega, by go_num, HST.out⟩
        case measure => simp [intOf]; omega
      | false =>
        rw [hlx] at C1 HST
        have hf : R = false := by
          rw [HR.out, ← List.take_append_drop (k + 1) s.data.toList, List.all_append, HST.out, Bool.false_and]
        subst hf
        go_wp2_with (first
          | (go_at_call 215; refine C1.out.mono ?_; rintro e w' ⟨rfl, rfl⟩)
          | fail)
        go_ret
        exact ⟨rfl, rfl⟩
    · obtain rfl : k = s.size := by omega
      have e : R = true := by
        have h := hp.out
        rw [HS.out, List.take_length] at h
        rw [HR.out, h]
      subst e
      have hkk : decide ((s.size : Int) < (s.size : Int)) = false := by simp
      go_wp2_with fail
      go_ret
      exact ⟨rfl, rfl⟩
def cutV (c : UInt8) (s : ByteArray) : Value := .tuple #[.string ⟨(ahead c s.data.toList).toArray⟩, .string ⟨(behind c s.data.toList).toArray⟩, .bool (hasB c s.data.toList)]
set_option maxRecDepth 100000 in
set_option maxHeartbeats 1000000 in
theorem index_any (s : ByteArray) (c : UInt8) (w : World) :
    Calls Tryz.prog 154 #[.string s, .string ⟨#[c]⟩] w fun e w' => e = .returned (.int .i64 (if hasB c s.data.toList = true then ((ahead c s.data.toList).length : Int) else -1)) ∧ w = w' := by
  have C1 := Lib.hid (Tryz.stringslite_IndexByte s (c.toNat : Int) w)
  have hi := index_ahead c s.data.toList
  have ec : (c.toNat : Int).toNat.toUInt8 = c := by simp
  obtain ⟨R, hR⟩ : ∃ R, R = (if hasB c s.data.toList = true then ((ahead c s.data.toList).length : Int) else -1) := ⟨_, rfl⟩
  rw [← hR]
  rw [← hR] at hi
  have HI := Lib.hid hi
  have HE := Lib.hid ec
  have HC : Hid (s = ⟨#[c]⟩ → R = 0) := fun e => by rw [← HI.out, e]; simp [Lib.indexByte]
  clear hi ec hR
  go_enter Tryz.func154, Tryz.ntmps154
  go_wp2_with (first
    | (go_at_call 192; refine C1.out.mono ?_; rintro e w' ⟨rfl, rfl⟩; rw [HE.out, HI.out])
    | fail)
  · have h : ([c] == s.toList) = true := by assumption
    go_ret
    refine ⟨?_, rfl⟩
    have e : s = ⟨#[c]⟩ := by
      have e1 : s.data.toList = [c] := by rw [← Lib.toList_data]; exact (beq_iff_eq.1 h).symm
      rw [← Lib.mk_data s, e1]
    rw [HC.out e]
    rfl
  · go_ret
    exact ⟨rfl, rfl⟩
set_option maxRecDepth 100000 in
set_option maxHeartbeats 1000000 in
theorem lcut_any (s : ByteArray) (c : UInt8) (w : World) (hs : s.size ≤ 140737488355328) :
    Calls Tryz.prog 121 #[.string s, .string ⟨#[c]⟩] w fun e w' => e = .returned (cutV c s) ∧ ∃ m, w' = w.drewN m := by
  have hsz : s.size = s.data.toList.length := Lib.size_eq s
  have hle := ahead_le c s.data.toList
  have C1 := Lib.hid (index_any s c w)
  unfold cutV
  by_cases hh : hasB c s.data.toList = true
  · have hlt : (ahead c s.data.toList).length < s.data.toList.length := by unfold hasB at hh; simpa using hh
    rw [if_pos hh] at C1
    have e1 : s.extract 0 (ahead c s.data.toList).length = ⟨(ahead c s.data.toList).toArray⟩ := by
      rw [Lib.extract_eq, List.drop_zero, Nat.sub_zero, ← ahead_take]
    have e2 : s.extract ((ahead c s.data.toList).length + 1) s.size = ⟨(behind c s.data.toList).toArray⟩ := by
      rw [Lib.extract_eq, hsz, List.take_of_length_le (by rw [List.length_drop]; exact Nat.le_refl _)]
      rfl
    rw [hh, ← e1, ← e2]
    generalize (ahead c s.data.toList).length = n at *
    have c1 : (0 : Int) ≤ ↑n := by omega
    have c2 : (↑n : Int) ≤ ↑s.size := by omega
    have c3 : (0 : Int) ≤ ↑n + 1 := by omega
    have c4 : (↑n + 1 : Int) ≤ ↑s.size := by omega
    have c5 : (↑n + 1 : Int) ≤ 140737488355328 := by omega
    have hwr : IntKind.i64.wrap ((n : Int) + 1) = (n : Int) + 1 := by rw [IntKind.wrap_i64]; omega
    have htn : ((n : Int) + 1).toNat = n + 1 := by omega
    clear hh e1 e2 hle hlt hsz
    go_enter Tryz.func121, Tryz.ntmps121
    go_wp2_with (go_at_call 154; refine C1.out.mono ?_; rintro e w' ⟨rfl, rfl⟩)
    go_region
    go_wp2
    go_ret3
    exact ⟨rfl, 1, rfl⟩
  · rw [Bool.not_eq_true] at hh
    have e1 := ahead_all hh
    have e2 := behind_nil hh
    rw [hh] at C1
    simp only [Bool.false_eq_true, if_false] at C1
    rw [hh, e1, e2, Lib.mk_data]
    clear hh e1 e2 hle hsz
    go_enter Tryz.func121, Tryz.ntmps121
    go_wp2_with (go_at_call 154; refine C1.out.mono ?_; rintro e w' ⟨rfl, rfl⟩)
    go_ret3
    exact ⟨rfl, 0, rfl⟩
set_option maxRecDepth 100000 in
set_option maxHeartbeats 1000000 in
theorem cut_any (s : ByteArray) (c : UInt8) (w : World) (hs : s.size ≤ 140737488355328) :
    Calls Tryz.prog 72 #[.string s, .string ⟨#[c]⟩] w fun e w' => e = .returned (cutV c s) ∧ ∃ m, w' = w.drewN m := by
  have C1 := Lib.hid (lcut_any s c w hs)
  unfold cutV at *
  go_enter Tryz.func72, Tryz.ntmps72
  go_wp2_with (go_at_call 121; refine C1.out.mono ?_; rintro e w' ⟨rfl, n, rfl⟩)
  go_ret3
  exact ⟨rfl, n, rfl⟩
end Go.Proofs.YtlecbblmaadpiaaGreatDoor
