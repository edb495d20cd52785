/- What must come at any rate ('heads' of layer 1's statements): true. -/
import Derived.Test.YthlopggdeccncaaNumD
import Derived.Deep.DeepFit
import Derived.Test.YthlopggdeccncaaNumE
import Derived.Test.YthlopggdeccncaaNumF
namespace Go.Proofs.Ythlopggdeccncaa
open Go.RowKit

set_option maxRecDepth 100000 in
set_option maxHeartbeats 1000000 in
theorem heads_any (w : World) : Calls Try.prog 10 #[] w fun e w' => e = .returned (.bool true) ∧ Below w.heap.size w w' := by
  have s1 := fun w => sum_any 4611686018427387904 5 w
  rw [show cadd 4611686018427387904 5 = 4611686018427387904 from by decide] at s1
  have s2 := fun w => less_any 3 5 w
  rw [show csub 3 5 = 0 from by decide] at s2
  have s3 := fun w => put_any 258 2 w (by decide) (by decide)
  rw [show psz 2 = 2 from by decide, show be (258 : Int).toNat 2 = [1, 2] from by decide] at s3
  have s4 := fun w => dec_any 120 w (by decide) (by decide)
  rw [show Lib.decDigits (120 : Int).toNat = [49, 50, 48] from by decide +kernel] at s4
  have S1 := Lib.hid s1
  have S2 := Lib.hid s2
  have S3 := Lib.hid s3
  have S4 := Lib.hid s4
  clear s1 s2 s3 s4
  go_enter Try.func10, Try.ntmps10
  go_wp2_with fail
  refine (unhex_even ⟨#[48, 97, 102, 102]⟩ 2 _ (by decide) rfl (by decide)).mono ?_
  rintro e w1 ⟨hb1, (⟨rfl, h⟩ | ⟨l, rfl, hl, hll, hrow⟩)⟩
  · exact absurd h (by decide)
  have el : l = [10, 255] := by
    have : unhex [48, 97, 102, 102] = some [10, 255] := by decide
    exact (Option.some.inj (this.symm.trans hl)).symm
  subst el
  have HR := Lib.hid hrow
  have HB := Lib.hid hb1
  clear hrow hl hll hb1
  go_wp2_with fail
  refine (unhex_even ⟨#[48, 65]⟩ 1 _ (by decide) rfl (by decide)).mono ?_
  rintro e w2 ⟨hb2, (⟨rfl, h⟩ | ⟨l, rfl, hl, hll, hrow⟩)⟩
  · have HB2 := Lib.hid hb2
    clear hb2 h
    go_wp2_with fail
    refine (S1.out _).mono ?_
    rintro e w3 ⟨rfl, rfl⟩
    go_wp2_with fail
    refine (S2.out _).mono ?_
    rintro e w3 ⟨rfl, rfl⟩
    go_wp2_with fail
    refine (S3.out _).mono ?_
    rintro e w3 ⟨rfl, hr3, hb3⟩
    have HR3 := Lib.hid hr3
    have HB3 := Lib.hid hb3
    clear hr3 hb3
    go_wp2_with fail
    refine (same_true _ _ 2 2 2 2 w3.heap.size (w3.heap.size + 1) [1, 2] _ ((Rb.rd (B := w3.heap.size) HR3.out rfl HR3.out.lt).alloc (Nat.le_refl _) _) (Rd.lit w3 _ rfl [1, 2] _ _ rfl 2 rfl)).mono ?_
    rintro e w4 ⟨rfl, rfl⟩
    go_wp2_with fail
    have s5 := hex_any (some ⟨w3.heap.size + 1, 0, none⟩) 1 1 [10] ((w3.alloc (Obj.cells #[Value.int IntKind.u8 1, Value.int IntKind.u8 2] 5)).alloc (Obj.cells #[Value.int IntKind.u8 10] 5))
      ((Rd.lit _ _ (by simp) [10] _ _ rfl 1 rfl).more (by simp)) (by decide)
    rw [show Lib.Hx.encode [10] = [48, 97] from by decide] at s5
    refine s5.mono ?_
    clear s5
    rintro e w5 ⟨rfl, hb5⟩
    have h05 : Below w1.heap.size w1 w5 := by
      have h2 := HB2.out
      have h3 := HB3.out
      refine ((((h2.trans (h3.mono h2.size)).alloc ?_ _).alloc ?_ _).trans (hb5.mono ?_))
      · exact Nat.le_trans h2.size h3.size
      · have := h2.size; have := h3.size; simp; omega
      · have := h2.size; have := h3.size; simp; omega
    have hlt := Rb.lt HR.out
    have hc : w5.cell? ⟨w.heap.size, 1, none⟩ = some (.int .u8 255) := (h05.cell (p := ⟨w.heap.size, 1, none⟩) hlt).trans (World.rowIs.cell HR.out (by decide : 1 < 2))
    have hs : w.heap.size < w5.heap.size := by have := h05.size; omega
    have HB5 := Lib.hid h05
    clear h05 hb5
    go_wp2_with fail
    refine (S4.out _).mono ?_
    rintro e w6 ⟨rfl, hb6⟩
    have HB6 := Lib.hid hb6
    clear hb6
    go_wp2_with fail
    have s6 := get_any (some ⟨w6.heap.size, 0, none⟩) 2 2 [1, 0] (w6.alloc (Obj.cells #[Value.int IntKind.u8 1, Value.int IntKind.u8 0] 5)) _ (Rd.lit w6 _ rfl [1, 0] _ _ rfl 2 rfl) (by decide) (by decide) (by decide)
    rw [show ((beNat (([1, 0] : List UInt8).drop (2 - 8)) : Nat) : Int) = 256 from by decide] at s6
    refine s6.mono ?_
    clear s6
    rintro e w7 ⟨rfl, rfl⟩
    go_wp2_with fail
    go_ret
    refine ⟨rfl, ?_⟩
    have h1 := HB.out
    have h5 := HB5.out
    have h6 := HB6.out
    exact ((h1.trans (h5.mono h1.size)).trans (h6.mono (Nat.le_trans h1.size h5.size))).alloc (by have := h1.size; have := h5.size; have := h6.size; omega) _
  · exact absurd hl (by have : unhex [48, 65] = none := by decide
                        intro h; rw [this] at h; cases h)
end Go.Proofs.Ythlopggdeccncaa
