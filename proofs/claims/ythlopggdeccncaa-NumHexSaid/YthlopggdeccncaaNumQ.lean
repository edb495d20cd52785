/- The walk of the statement NumHex. -/
import Derived.Test.YthlopggdeccncaaNumH
namespace Go.Proofs.Ythlopggdeccncaa
open Go.RowKit

theorem hexd (d : Nat) (h : d < 16) : Lib.Hx.digit d = if d < 10 then UInt8.ofNat (48 + d) else UInt8.ofNat (87 + d) := by
  have : ∀ d : Fin 16, Lib.Hx.digit d.val = if d.val < 10 then UInt8.ofNat (48 + d.val) else UInt8.ofNat (87 + d.val) := by decide +kernel
  exact this ⟨d, h⟩
theorem digit_hv (a : UInt8) (h : isH (a.toNat : Int) = true) : Lib.Hx.digit (hv (a.toNat : Int)).toNat = a := by
  have h1 := hv_bd (a.toNat : Int)
  rw [hexd _ (by omega)]
  apply UInt8.toNat_inj.1
  simp only [isH, Bool.or_eq_true, decide_eq_true_iff] at h
  unfold hv
  have := a.toNat_lt
  rcases h with h | h
  · rw [if_pos h, if_pos (by omega), UInt8.toNat_ofNat']; omega
  · rw [if_neg (by omega), if_pos h, if_neg (by omega), UInt8.toNat_ofNat']; omega

theorem enc_unhex : ∀ (L l : List UInt8), unhex L = some l → Lib.Hx.encode l = L
  | [], l, h => by cases h; rfl
  | [_], _, h => by cases h
  | a :: b :: t, l, h => by
    rw [unhex] at h
    split at h
    · rename_i hab
      simp only [Bool.and_eq_true] at hab
      obtain ⟨r, hr, e⟩ := Option.map_eq_some_iff.1 h
      subst e
      have ha := hv_bd (a.toNat : Int)
      have hb := hv_bd (b.toNat : Int)
      have hn : (UInt8.ofNat (hv (a.toNat : Int) * 16 + hv (b.toNat : Int)).toNat).toNat = (hv (a.toNat : Int)).toNat * 16 + (hv (b.toNat : Int)).toNat := by
        rw [UInt8.toNat_ofNat']; omega
      rw [Lib.Hx.encode_cons, enc_unhex t r hr, hn, show ((hv (a.toNat : Int)).toNat * 16 + (hv (b.toNat : Int)).toNat) / 16 = (hv (a.toNat : Int)).toNat by omega,
        show ((hv (a.toNat : Int)).toNat * 16 + (hv (b.toNat : Int)).toNat) % 16 = (hv (b.toNat : Int)).toNat by omega, digit_hv a hab.1, digit_hv b hab.2]
    · cases h

/-- Is one of these no digit? -/
def anyBad (l : List UInt8) : Bool := l.any fun c => !isH (c.toNat : Int)
theorem unhex_none : ∀ (L : List UInt8), unhex L = none → (decide (L.length % 2 = 1) || anyBad L) = true
  | [], h => by cases h
  | [_], _ => by simp
  | a :: b :: t, h => by
    rw [unhex] at h
    split at h
    · have ht : unhex t = none := by simpa using h
      have := unhex_none t ht
      simp only [Bool.or_eq_true, decide_eq_true_iff, anyBad, List.any_cons] at this ⊢
      rcases this with h1 | h1
      · left; simp; omega
      · right; right; right; exact h1
    · rename_i hab
      simp only [anyBad, List.any_cons]
      cases h1 : isH (a.toNat : Int) <;> cases h2 : isH (b.toNat : Int) <;> simp_all
theorem bad_snoc (l : List UInt8) (x : UInt8) : anyBad (l ++ [x]) = (anyBad l || !isH (x.toNat : Int)) := by simp [anyBad, List.any_append]

set_option maxRecDepth 100000 in
set_option maxHeartbeats 2000000 in
/-- It was read. -/
theorem numHex_yes (s : ByteArray) (l : List UInt8) (m : Nat) (w : World) (hs : s.size ≤ 140737488351232) (hm : s.size = 2 * m) (hu : unhex s.data.toList = some l) :
    Calls Try.prog 3 #[.string s] w fun e w' => e = .returned (.bool true) ∧ Below w.heap.size w w' := by
  have c1 := fun w => unhex_even s m w (by unfold maxLen; omega) hm (by omega)
  have c2 : ∀ (w w1 : World), Rb w1 w.heap.size 5 m l → l.length = m → Calls Try.prog 9 #[.slice (some ⟨w.heap.size, 0, none⟩) m m] w1 fun e w' => e = .returned (.string s) ∧ Below w1.heap.size w1 w' := fun w w1 h hl =>
    (hex_any _ m m l w1 (Rb.rd h hl h.lt) (by omega)).mono fun e w' ⟨he, hb⟩ => ⟨by rw [he, enc_unhex _ _ hu], hb⟩
  have e1 : (2 * (m : Int) == (s.size : Int)) = true := by rw [beq_iff_eq]; omega
  have hm2 : (m : Int) ≤ 281474976710656 := by omega
  have C1 := Lib.hid c1
  have C2 := Lib.hid c2
  have HU := Lib.hid hu
  clear c1 c2 hu hm
  go_enter Try.func3, Try.ntmps3
  go_wp2_with fail
  refine (C1.out _).mono ?_
  rintro e w1 ⟨hb1, (⟨_, h⟩ | ⟨l', rfl, hl, hll, hrow⟩)⟩
  · rw [HU.out] at h; cases h
  obtain rfl : l' = l := by have h := hl.symm.trans HU.out; exact Option.some.inj h
  have HR := Lib.hid hrow
  have HL := Lib.hid hll
  have B1 := Lib.hid hb1
  clear hrow hll hb1 hl
  go_wp2_with fail
  refine (C2.out _ _ HR.out HL.out).mono ?_
  rintro e w2 ⟨rfl, hb2⟩
  have B2 := Lib.hid hb2
  clear hb2
  go_wp2_with fail
  refine (heads_any _).mono ?_
  rintro e w3 ⟨rfl, hb3⟩
  have B3 := Lib.hid hb3
  clear hb3
  go_wp2_with fail
  go_ret
  exact ⟨rfl, (B1.out.trans (B2.out.mono B1.out.size)).trans (B3.out.mono (Nat.le_trans B1.out.size B2.out.size))⟩

set_option maxRecDepth 100000 in
set_option maxHeartbeats 4000000 in
/-- It was not read. -/
theorem numHex_no (s : ByteArray) (w : World) (hs : s.size ≤ 140737488351232) (hu : (decide (s.size % 2 = 1) || anyBad s.data.toList) = true)
    (c1 : ∀ w, Calls Try.prog 8 #[.string s] w fun e w' => e = .returned (.tuple #[.slice none 0 0, .bool false]) ∧ Below w.heap.size w w') :
    Calls Try.prog 3 #[.string s] w fun e w' => e = .returned (.bool true) ∧ Below w.heap.size w w' := by
  have hd : ((s.size : Int) % 2 == 1) = decide (s.size % 2 = 1) := by
    rw [Bool.eq_iff_iff, beq_iff_eq, decide_eq_true_iff]; omega
  generalize hod : decide (s.size % 2 = 1) = od at *
  have HOD := Lib.hid hod
  have C1 := Lib.hid c1
  have HU := Lib.hid hu
  clear c1 hu hod
  go_enter Try.func3, Try.ntmps3
  go_wp2_with fail
  refine (C1.out _).mono ?_
  rintro e w1 ⟨rfl, hb1⟩
  have B1 := Lib.hid hb1
  clear hb1
  go_wp2_with fail
  go_loop [5, 6] (fun o i => ∃ (k : Nat) (b : Bool), k ≤ s.size ∧ i = .int .i64 k ∧ o = .bool b ∧ Hid (b = (od || anyBad (s.data.toList.take k)))) (fun _ i => s.size - (intOf i).toNat)
  case atStart => exact ⟨0, od, Nat.zero_le _, rfl, rfl, by simp [Hid, anyBad]⟩
  case round =>
    obtain ⟨k, b, hk, rfl, rfl, hb⟩ := hrel
    by_cases hlt : k < s.size
    · obtain ⟨x, hx⟩ : ∃ x, x = s[k] := ⟨_, rfl⟩
      have hix : ∀ W : World, (Instr.index 9 (.string s) (.int .i64 (k : Int))).run Try.prog W = .ok (.int .u8 (x.toNat : Int)) W := fun W => by
        go_simp
      have hnew : (od || anyBad (s.data.toList.take (k + 1))) = (b || !isH (x.toNat : Int)) := by
        rw [take_more _ k (by simpa using hlt), bad_snoc, ← Bool.or_assoc, ← hb.out]
        have e : s.data.toList.getD k 0 = x := by rw [List.getD_eq_getElem?_getD, str_at s k hlt, hx]; rfl
        rw [e]
      have HN := Lib.hid hnew
      have Hx := Lib.hid hx
      clear hx hnew
      have x0 : (0 : Int) ≤ (x.toNat : Int) := by omega
      have x1 : (x.toNat : Int) < 256 := by have := x.toNat_lt; omega
      cases b with
      | true =>
        go_wp2_with fail
        go_round
        case rel => exact ⟨k + 1, true, by omega, by go_num, rfl, by show true = _; rw [HN.out]; rfl⟩
        case measure => simp [intOf]; omega
      | false =>
        go_wp2_with fail
        all_goals
          go_round
          case rel =>
            refine ⟨k + 1, _, by omega, by go_num, rfl, ?_⟩
            show _ = (od || anyBad (s.data.toList.take (k + 1)))
            rw [HN.out]
            unfold isH
            rw [Bool.eq_iff_iff]
            simp
            try omega
          case measure => simp [intOf]; omega
    · obtain rfl : k = s.size := by omega
      have hbt : b = true := by rw [hb.out, List.take_of_length_le (by simp)]; exact HU.out
      subst hbt
      go_wp2_with fail
      refine (heads_any _).mono ?_
      rintro e w3 ⟨rfl, hb3⟩
      have B3 := Lib.hid hb3
      clear hb3
      go_wp2_with fail
      go_ret
      exact ⟨rfl, B1.out.trans (B3.out.mono B1.out.size)⟩

theorem numHex_walk (s : ByteArray) (w : World) (hs : s.size ≤ 140737488351232) :
    Calls Try.prog 3 #[.string s] w fun e w' => e = .returned (.bool true) ∧ Below w.heap.size w w' := by
  have hl : s.data.toList.length = s.size := by simp
  have hx : s.size ≤ maxLen := by unfold maxLen; omega
  cases hu : unhex s.data.toList with
  | some l =>
    have h := unhex_len _ _ hu
    exact numHex_yes s l (s.size / 2) w hs (by omega) hu
  | none =>
    have hb := unhex_none _ hu
    rw [hl] at hb
    refine numHex_no s w hs hb fun w => ?_
    by_cases ho : s.size % 2 = 1
    · exact (unhex_odd s w hx ho).mono fun e w' ⟨he, hw⟩ => ⟨he, by rw [← hw]; exact Below.refl _ _⟩
    · refine (unhex_even s (s.size / 2) w hx (by omega) (by omega)).mono fun e w' ⟨hb, h⟩ => ?_
      rcases h with ⟨he, _⟩ | ⟨l, _, h, _⟩
      · exact ⟨he, hb⟩
      · rw [hu] at h; cases h
end Go.Proofs.Ythlopggdeccncaa
