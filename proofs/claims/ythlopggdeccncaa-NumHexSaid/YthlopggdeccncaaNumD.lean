/- What Hex returns: two digits a byte; and Same of the reference: whether two slices of bytes read alike. -/
import Derived.Test.YthlopggdeccncaaNumC
namespace Go.Proofs.Ythlopggdeccncaa
open Go.RowKit

theorem same_any (A A' : Option Addr) (n c n' c' B B' : Nat) (l l' : List UInt8) (w : World) (h : Rd w B A n l) (h' : Rd w B' A' n' l') :
    Calls Try.prog 16 #[.slice A n c, .slice A' n' c'] w fun e w' => e = .returned (.bool (l == l')) ∧ w = w' := by
  have g := run_str (P := Try.prog) (c := c) h 22 5 9 rfl rfl rfl
  have g' := run_str (P := Try.prog) (c := c') h' 22 5 9 rfl rfl rfl
  clear h h'
  go_enter Try.func16, Try.ntmps16
  go_wp2
  go_ret
  exact ⟨rfl, rfl⟩

theorem enc_snoc (l : List UInt8) (x : UInt8) : Lib.Hx.encode (l ++ [x]) = Lib.Hx.encode l ++ [Lib.Hx.digit (x.toNat / 16), Lib.Hx.digit (x.toNat % 16)] := by simp [Lib.Hx.encode]
theorem dig_const (_n d : Nat) (h : d < 16) : Value.int .u8 (((⟨#[48, 49, 50, 51, 52, 53, 54, 55, 56, 57, 97, 98, 99, 100, 101, 102]⟩ : ByteArray)[d]'h).toNat : Int) = .int .u8 ((Lib.Hx.digit d).toNat : Int) := by
  have : ∀ d : Fin 16, (⟨#[48, 49, 50, 51, 52, 53, 54, 55, 56, 57, 97, 98, 99, 100, 101, 102]⟩ : ByteArray)[d.val]'d.isLt = Lib.Hx.digit d.val := by decide +kernel
  rw [this ⟨d, h⟩]
theorem same_true (A A' : Option Addr) (n c n' c' B B' : Nat) (l : List UInt8) (w : World) (h : Rd w B A n l) (h' : Rd w B' A' n' l) :
    Calls Try.prog 16 #[.slice A n c, .slice A' n' c'] w fun e w' => e = .returned (.bool true) ∧ w = w' :=
  (same_any A A' n c n' c' B B' l l w h h').mono fun _ _ ⟨he, hw⟩ => ⟨by rw [he, show (l == l) = true by simp], hw⟩

set_option maxRecDepth 100000 in
set_option maxHeartbeats 1000000 in
theorem hex_any (A : Option Addr) (n c : Nat) (l : List UInt8) (w : World) (h : Rd w w.heap.size A n l) (hbig : 2 * n ≤ 281474976710656) :
    Calls Try.prog 9 #[.slice A n c] w fun e w' => e = .returned (.string ⟨(Lib.Hx.encode l).toArray⟩) ∧ Below w.heap.size w w' := by
  have hmk := fun (w : World) => run_make_row' (P := Try.prog) 22 5 (.int .u8 0) 1 rfl info_u8 rfl .i64 .i64 (2 * n) (by omega) (by omega) w
  have hq : ((2 * n : Nat) : Int) = 2 * (n : Int) := by omega
  rw [hq] at hmk
  clear hq
  have HR := Lib.hid h
  clear h
  go_enter Try.func9, Try.ntmps9
  go_wp2
  go_loopw [11] (fun i wr => ∃ k : Nat, k ≤ n ∧ i = .int .i64 k ∧ Hid (Rb wr w.heap.size 5 (2 * n) (Lib.Hx.encode (l.take k))) ∧ Hid (Below w.heap.size w wr))
    (fun i _ => n - (intOf i).toNat)
  case atStart => exact ⟨0, Nat.zero_le _, rfl, by rw [List.take_zero]; exact Rb.made _ _ _, (Below.refl _ _).alloc (Nat.le_refl _) _⟩
  case round =>
    obtain ⟨k, hk, rfl, hrow, hbel⟩ := hrel
    by_cases hlt : k < n
    · obtain ⟨b, o, rfl, hb, hcell⟩ := HR.out.2 (by omega)
      obtain ⟨x, hx⟩ : ∃ x, x = l.getD k 0 := ⟨_, rfl⟩
      have hcx : wr.cell? ⟨b, o + k, none⟩ = some (.int .u8 (x.toNat : Int)) := by rw [hx]; exact (hbel.out.cell (p := ⟨b, o + k, none⟩) hb).trans (hcell k hlt)
      have HC := Lib.hid hcell
      have Hx := Lib.hid hx
      clear hx hcell
      have hx1 : (x.toNat : Int) < 256 := by have := x.toNat_lt; omega
      have hx0 : (0 : Int) ≤ (x.toNat : Int) := by omega
      have hf1 : wr.frozen? ⟨w.heap.size, 2 * k, none⟩ = false := World.rowIs.frozen hrow.out _
      have hc1 : wr.cell? ⟨w.heap.size, 2 * k, none⟩ = some _ := World.rowIs.cell hrow.out (by omega)
      have hf2 : wr.frozen? ⟨w.heap.size, 2 * k + 1, none⟩ = false := World.rowIs.frozen hrow.out _
      have hc2 : wr.cell? ⟨w.heap.size, 2 * k + 1, none⟩ = some _ := World.rowIs.cell hrow.out (by omega)
      have hne : b ≠ w.heap.size := by omega
      go_wp2_with fail
      go_roundw
      case rel =>
        refine ⟨k + 1, by omega, by go_num, ?_, (hbel.out.setCell (by simp) _).setCell (by simp) _⟩
        have hl := HR.out.1
        have hx : x = l.getD k 0 := Hx.out
        rw [take_more l k (by omega), enc_snoc, ← hx]
        have hlen : (Lib.Hx.encode (l.take k)).length = 2 * k := by rw [Lib.Hx.encode_length, List.length_take]; omega
        have r1 := Rb.push hrow.out (Lib.Hx.digit (x.toNat / 16)) hlen (dig_const x.toNat (x.toNat / 16) (by omega))
        have r2 := Rb.push r1 (Lib.Hx.digit (x.toNat % 16)) (k := 2 * k + 1) (by simp [hlen]) (dig_const x.toNat (x.toNat % 16) (by omega))
        simp only [List.append_assoc] at r2
        exact r2
      case measure => simp [intOf]; omega
    · obtain rfl : k = n := by omega
      have hl := HR.out.1
      have hr : Rb wr w.heap.size 5 (2 * k) (Lib.Hx.encode l) := by have h := hrow.out; rwa [List.take_of_length_le (by omega)] at h
      have hlen : (Lib.Hx.encode l).length = 2 * k := by rw [Lib.Hx.encode_length, hl]
      have g := run_str (P := Try.prog) (c := 2 * k) (Rb.rd (B := wr.heap.size) hr hlen hr.lt) 22 5 9 rfl rfl rfl
      clear hl hlen hr
      go_wp2
      go_ret
      exact ⟨rfl, hbel.out⟩
end Go.Proofs.Ythlopggdeccncaa
