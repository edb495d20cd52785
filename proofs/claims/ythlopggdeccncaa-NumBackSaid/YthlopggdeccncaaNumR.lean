/- The walk of the statement NumBack. -/
import Derived.Test.YthlopggdeccncaaNumP
import Derived.Test.YthlopggdeccncaaNumQ
namespace Go.Proofs.Ythlopggdeccncaa
open Go.RowKit

theorem isH_digit (d : Nat) (h : d < 16) : isH ((Lib.Hx.digit d).toNat : Int) = true ∧ hv ((Lib.Hx.digit d).toNat : Int) = (d : Int) := by
  have : ∀ d : Fin 16, isH ((Lib.Hx.digit d.val).toNat : Int) = true ∧ hv ((Lib.Hx.digit d.val).toNat : Int) = (d.val : Int) := by decide +kernel
  exact this ⟨d, h⟩
theorem unhex_enc : ∀ l : List UInt8, unhex (Lib.Hx.encode l) = some l
  | [] => rfl
  | a :: t => by
    have ha := a.toNat_lt
    rw [Lib.Hx.encode_cons, unhex, (isH_digit _ (by omega : a.toNat / 16 < 16)).1, (isH_digit _ (by omega : a.toNat % 16 < 16)).1, (isH_digit _ (by omega : a.toNat / 16 < 16)).2, (isH_digit _ (by omega : a.toNat % 16 < 16)).2, unhex_enc t]
    simp only [Bool.and_self, if_true, Option.map_some]
    congr 2
    apply UInt8.toNat_inj.1
    rw [UInt8.toNat_ofNat']
    omega

theorem be_succ (x n : Nat) : be x (n + 1) = be (x / 256) n ++ [UInt8.ofNat x] := by
  unfold be
  rw [List.range_succ, List.map_append]
  congr 1
  · refine List.map_congr_left fun j hj => ?_
    have hj' : j < n := List.mem_range.1 hj
    rw [show n + 1 - 1 - j = (n - 1 - j) + 1 by omega, Nat.pow_succ, Nat.mul_comm, ← Nat.div_div_eq_div_mul]
  · simp
theorem beNat_be : ∀ (n x : Nat), n ≤ 8 → beNat (be x n) = x % 256 ^ n
  | 0, x, _ => by simp [be, beNat, Nat.mod_one]
  | n + 1, x, h => by
    have hp : 256 ^ (n + 1) ≤ 256 ^ 8 := Nat.pow_le_pow_right (by decide) h
    rw [be_succ, beNat_snoc, beNat_be n (x / 256) (by omega), UInt8.toNat_ofNat']
    have e : x % 256 ^ (n + 1) = x / 256 % 256 ^ n * 256 + x % 256 := by
      rw [Nat.pow_succ, Nat.mul_comm, Nat.mod_mul]
      omega
    have hlt : x % 256 ^ (n + 1) < 256 ^ (n + 1) := Nat.mod_lt _ (Nat.pow_pos (by decide))
    rw [show (2 : Nat) ^ 8 = 256 from rfl, ← e]
    exact Nat.mod_eq_of_lt (Nat.lt_of_lt_of_le hlt hp)

/-- What Get of Put is. -/
theorem get_put (x size : Int) (w : World) (g : Nat) (hr : Rb w g 5 (psz size) (be x.toNat (psz size))) :
    Calls Try.prog 17 #[.slice (some ⟨g, 0, none⟩) (psz size) (psz size)] w fun e w' => e = .returned (.int .u64 ((x.toNat % 256 ^ psz size : Nat) : Int)) ∧ w = w' := by
  have hle := psz_le size
  have h := get_any (some ⟨g, 0, none⟩) (psz size) (psz size) _ w w.heap.size (Rb.rd hr (be_length _ _) hr.lt) (by omega) (Nat.le_refl _) (by omega)
  rw [show psz size - 8 = 0 by omega, List.drop_zero, beNat_be _ _ hle] at h
  exact h

set_option maxRecDepth 100000 in
set_option maxHeartbeats 2000000 in
theorem numBack_walk (x size : Int) (A : Option Addr) (n c : Nat) (l : List UInt8) (w : World) (hx : (Lit.int .u64 x).wf = true) (_hs : (Lit.int .i64 size).wf = true)
    (hb : Rd w w.heap.size A n l ∧ n ≤ c ∧ c ≤ 140737488351232) :
    Calls Try.prog 5 #[.int .u64 x, .int .i64 size, .slice A n c] w fun e w' => e = .returned (.bool true) ∧ Below w.heap.size w w' := by
  obtain ⟨x0, x1⟩ := wf_u64 hx
  obtain ⟨hr, hnc, hcc⟩ := hb
  have hlen := hr.1
  have s0 : (⟨(Lib.Hx.encode l).toArray⟩ : ByteArray).size = 2 * n := by simp [ByteArray.size, Lib.Hx.encode_length, hlen]
  have c1 := hex_any A n c l w hr (by omega)
  have c2 := fun w => unhex_even ⟨(Lib.Hx.encode l).toArray⟩ n w (by unfold maxLen; omega) s0 (by omega)
  simp only [unhex_enc] at c2
  generalize (⟨(Lib.Hx.encode l).toArray⟩ : ByteArray) = s at c1 c2
  have c3 := fun w => put_any x size w x0 x1
  have c4 := get_put x size
  have e1 : ((psz size : Int) == max 0 (min size 8)) = true := by rw [beq_iff_eq]; unfold psz; omega
  have hle := psz_le size
  have hpl := be_length x.toNat (psz size)
  have c5 : ∀ (w w1 : World), Rb w1 w.heap.size 5 n l → Rd w1 w1.heap.size A n l → Calls Try.prog 16 #[.slice (some ⟨w.heap.size, 0, none⟩) n n, .slice A n c] w1 fun e w' => e = .returned (.bool true) ∧ w1 = w' := fun w w1 h h' =>
    same_true _ _ n n n c _ _ l w1 (Rb.rd h hlen h.lt) h'
  have C1 := Lib.hid c1
  have C2 := Lib.hid c2
  have C3 := Lib.hid c3
  have C5 := Lib.hid c5
  have HR := Lib.hid hr
  have HL := Lib.hid hlen
  clear c1 c2 c3 c5 hr hlen s0 hpl hx
  have key : (size < 1 ∧ size < 8 ∧ size ≤ 0 ∧ ∀ w g, Rb w g 5 (psz size) (be x.toNat (psz size)) → Calls Try.prog 17 #[.slice (some ⟨g, 0, none⟩) (psz size) (psz size)] w fun e w' => e = .returned (.int .u64 0) ∧ w = w') ∨
      (1 ≤ size ∧ size < 8 ∧ 0 < size ∧ ∃ D, IntKind.u64.wrap (2 ^ (8 * size).toNat) = D ∧ 1 ≤ D ∧ ∀ w g, Rb w g 5 (psz size) (be x.toNat (psz size)) → Calls Try.prog 17 #[.slice (some ⟨g, 0, none⟩) (psz size) (psz size)] w fun e w' => e = .returned (.int .u64 (x % D)) ∧ w = w') ∨
      (8 ≤ size ∧ 1 ≤ size ∧ ∀ w g, Rb w g 5 (psz size) (be x.toNat (psz size)) → Calls Try.prog 17 #[.slice (some ⟨g, 0, none⟩) (psz size) (psz size)] w fun e w' => e = .returned (.int .u64 x) ∧ w = w') := by
    by_cases h1 : size < 1
    · refine .inl ⟨h1, by omega, by omega, fun w g h => (c4 w g h).mono fun e w' ⟨he, hw⟩ => ⟨?_, hw⟩⟩
      rw [he, show psz size = 0 by unfold psz; omega, Nat.pow_zero, Nat.mod_one]
      rfl
    · by_cases h2 : size < 8
      · have hp : psz size = size.toNat := by unfold psz; omega
        have hpow : (2 : Int) ^ (8 * size).toNat = ((256 ^ size.toNat : Nat) : Int) := by
          rw [show (8 * size).toNat = 8 * size.toNat by omega, Int.pow_mul]
          simp
        have hlt : 256 ^ size.toNat ≤ 256 ^ 7 := Nat.pow_le_pow_right (by decide) (by omega)
        have hpos : 1 ≤ 256 ^ size.toNat := Nat.one_le_pow _ _ (by decide)
        refine .inr (.inl ⟨by omega, h2, by omega, ((256 ^ size.toNat : Nat) : Int), ?_, by omega, fun w g h => (c4 w g h).mono fun e w' ⟨he, hw⟩ => ⟨?_, hw⟩⟩)
        · rw [hpow, IntKind.wrap_u64]
          exact Int.emod_eq_of_lt (by omega) (by have : (256 : Nat) ^ 7 = 72057594037927936 := rfl; omega)
        · rw [he, hp, Int.natCast_emod, Int.toNat_of_nonneg x0]
      · refine .inr (.inr ⟨by omega, by omega, fun w g h => (c4 w g h).mono fun e w' ⟨he, hw⟩ => ⟨?_, hw⟩⟩)
        rw [he, show psz size = 8 by unfold psz; omega, Nat.mod_eq_of_lt (Nat.lt_of_lt_of_le (by omega : x.toNat < 18446744073709551616) (by decide)), Int.toNat_of_nonneg x0]
  clear c4
  rcases key with ⟨h1, h2, h3, c4⟩ | ⟨h1, h2, h3, D, hD, hD1, c4⟩ | ⟨h1, h2, c4⟩
  all_goals
    have C4 := Lib.hid c4
    clear c4
    go_enter Try.func5, Try.ntmps5
    go_wp2_with fail
    refine C1.out.mono ?_
    rintro e w1 ⟨rfl, hb1⟩
    have B1 := Lib.hid hb1
    clear hb1
    go_wp2_with fail
    refine (C2.out _).mono ?_
    rintro e w2 ⟨hb2, (⟨_, h⟩ | ⟨l', rfl, hl', hll', hrow⟩)⟩
    · cases h
    obtain rfl : l = l' := Option.some.inj hl'
    have B2 := Lib.hid hb2
    have R2 := Lib.hid hrow
    clear hb2 hrow hll' hl'
    go_wp2_with fail
    refine (C3.out _).mono ?_
    rintro e w3 ⟨rfl, hr3, hb3⟩
    have B3 := Lib.hid hb3
    have R3 := Lib.hid hr3
    clear hb3 hr3
    go_wp2_with fail
    have hA : Rd w3 w3.heap.size A n l := ((((HR.out.below B1.out).more B1.out.size).below B2.out).more B2.out.size |>.below B3.out).more B3.out.size
    refine (C5.out _ _ (R2.out.below B3.out R2.out.lt) hA).mono ?_
    clear hA
    rintro e w4 ⟨rfl, rfl⟩
    go_wp2_with fail
    refine (C4.out _ _ R3.out).mono ?_
    rintro e w4 ⟨rfl, rfl⟩
    go_wp2_with fail
    refine (heads_any _).mono ?_
    rintro e w5 ⟨rfl, hb5⟩
    have B5 := Lib.hid hb5
    clear hb5
    go_wp2_with fail
    go_ret
    have z1 := B1.out.size
    have z2 := B2.out.size
    have z3 := B3.out.size
    exact ⟨rfl, ((B1.out.trans (B2.out.mono z1)).trans (B3.out.mono (by omega))).trans (B5.out.mono (by omega))⟩
end Go.Proofs.Ythlopggdeccncaa
