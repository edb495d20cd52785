/- Chosen by shake.py of the texts of the layers below: what dec_any need. -/
import Derived.Test.YtlncacfflalacaaDoorBase
import Derived.Test.YtlncacfflalacaaDoorCborI
import Derived.Test.YtlncacfflalacaaDoorCborO
import Derived.Test.YtlncacfflalacaaDoorCborQ
import Derived.Test.YtlncacfflalacaaDoorConv
import Derived.Test.YtlncacfflalacaaDoorEidN
import Derived.Test.YtlncacfflalacaaDoorMask
import Derived.Test.YtlncacfflalacaaDoorNumO
import Derived.Test.YtlncacfflalacaaDoorOwn
import Derived.Test.YtlncacfflalacaaDoorRows
import Derived.Below
import Derived.BigCall
import Derived.BigGuard
import Derived.BigGuardPart
import Derived.BigQuiet
import Derived.Deep.DeepCutAuto
import Derived.Deep.DeepFit
import Derived.Deep.Draws
import Derived.Deep.OwnRows
import Derived.Deep.QuietTactic
import Derived.Laws.AppendOwn
import Derived.Laws.BitsAllLaws
import Derived.Laws.BytesArg
import Derived.Laws.IdiomStrings
import Derived.Laws.NewBlocks
import Derived.Laws.Strings3
import Derived.Lib.EndianBits
import Derived.Lib.HexFns
import Derived.Lib.Hide
import Derived.Lib.ItoaNum
import Derived.Lib.SlBytesConst
import Derived.Lib.Strings
import Derived.Lib.Walk
import Derived.Outline
import Derived.WalkKit
import Derived.WalkLawsBesides
section
namespace Go.Proofs.YtlncacfflalacaaDoor
open Go.RowKit
/-- The array's content: the digits suf from place f on. -/
def decRow (f : Nat) (suf : List UInt8) : Nat → Value := fun j => if f ≤ j then .int .u8 ((suf.getD (j - f) 0).toNat : Int) else .int .u8 0
theorem dig10 (d : Nat) (h : d < 16) (h10 : d < 10) : Value.int .u8 (((⟨#[48, 49, 50, 51, 52, 53, 54, 55, 56, 57, 97, 98, 99, 100, 101, 102]⟩ : ByteArray)[d]'h).toNat : Int) = .int .u8 ((UInt8.ofNat (48 + d)).toNat : Int) := by
  have : ∀ d : Fin 10, (⟨#[48, 49, 50, 51, 52, 53, 54, 55, 56, 57, 97, 98, 99, 100, 101, 102]⟩ : ByteArray)[d.val]'(Nat.lt_of_lt_of_le d.isLt (by decide)) = UInt8.ofNat (48 + d.val) := by decide +kernel
  rw [this ⟨d, h10⟩]
theorem decRow_step (a f : Nat) (suf : List UInt8) (j : Nat) (hf : 1 ≤ f) (_hs : f ≤ 20) (_hj : j < 20) {h : a % 10 < 16} :
    (if j = f - 1 then Value.int .u8 (((⟨#[48, 49, 50, 51, 52, 53, 54, 55, 56, 57, 97, 98, 99, 100, 101, 102]⟩ : ByteArray)[a % 10]'h).toNat : Int) else decRow f suf j) = decRow (f - 1) (UInt8.ofNat (48 + a % 10) :: suf) j := by
  rw [dig10 _ h (by omega)]
  unfold decRow
  by_cases e : j = f - 1
  · subst e
    rw [if_pos rfl, if_pos (Nat.le_refl _), Nat.sub_self]
    rfl
  · rw [if_neg e]
    by_cases h2 : f ≤ j
    · rw [if_pos h2, if_pos (by omega), show j - (f - 1) = (j - f) + 1 by omega]
      simp [List.getD]
    · rw [if_neg h2, if_neg (by omega)]
theorem decRow_set {w : World} {b f : Nat} {t : TypeId} {suf : List UInt8} (hrow : w.rowIs b t 20 (decRow f suf)) (a : Nat) (hf : 1 ≤ f) (hf20 : f ≤ 20) (h : a % 10 < 16) :
    (w.setCell ⟨b, f - 1, none⟩ (Value.int .u8 (((⟨#[48, 49, 50, 51, 52, 53, 54, 55, 56, 57, 97, 98, 99, 100, 101, 102]⟩ : ByteArray)[a % 10]'h).toNat : Int))).rowIs b t 20 (decRow (f - 1) (UInt8.ofNat (48 + a % 10) :: suf)) :=
  (World.rowIs.set hrow (f - 1) _).congr fun j hj => decRow_step a f suf j hf hf20 hj
set_option maxRecDepth 100000 in
set_option maxHeartbeats 1000000 in
theorem dec_any (x : Int) (w : World) (h0 : 0 ≤ x) (h1 : x < 18446744073709551616) :
    Calls Tryd.prog 23 #[.int .u64 x] w fun e w' => e = .returned (.string ⟨(Lib.decDigits x.toNat).toArray⟩) ∧ Below w.heap.size w w' := by
  go_enter Tryd.func23, Tryd.ntmps23
  go_wp2
  go_loopw [0, 4] (fun v i wr => ∃ (a f : Nat) (suf : List UInt8), v = .int .u64 (a : Int) ∧ i = .int .i64 (f : Int) ∧ 1 ≤ f ∧ f ≤ 20 ∧ a < 18446744073709551616 ∧ Hid (a < 10 ^ f) ∧ Hid (suf.length = 20 - f) ∧
      Hid (Lib.decDigits x.toNat = Lib.decDigits a ++ suf) ∧ Hid (wr.rowIs w.heap.size 64 20 (decRow f suf)) ∧ Hid (Below w.heap.size w wr))
    (fun _ i _ => (intOf i).toNat)
  case atStart =>
    refine ⟨x.toNat, 20, [], by go_num, rfl, by omega, by omega, by omega, (by omega : x.toNat < 100000000000000000000), rfl, by simp [Hid], ?_, (Below.refl _ _).alloc (Nat.le_refl _) _⟩
    exact World.rowIs_alloc w _ _ _ (fun i hi => by
      have hi' : i < 20 := hi
      have : ∀ i, i < 20 → (#[Value.int IntKind.u8 0, Value.int IntKind.u8 0, Value.int IntKind.u8 0, Value.int IntKind.u8 0, Value.int IntKind.u8 0, Value.int IntKind.u8 0, Value.int IntKind.u8 0, Value.int IntKind.u8 0, Value.int IntKind.u8 0, Value.int IntKind.u8 0, Value.int IntKind.u8 0, Value.int IntKind.u8 0, Value.int IntKind.u8 0, Value.int IntKind.u8 0, Value.int IntKind.u8 0, Value.int IntKind.u8 0, Value.int IntKind.u8 0, Value.int IntKind.u8 0, Value.int IntKind.u8 0, Value.int IntKind.u8 0] : Array Value)[i]? = some (.int .u8 0) :=
        fun i hi => by
          have h : (Array.replicate 20 (Value.int IntKind.u8 0))[i]? = some (.int .u8 0) := by simp [hi]
          exact h
      rw [this i hi']
      simp [decRow])
  case round =>
    obtain ⟨a, f, suf, rfl, rfl, hf, hf20, ha, hpow, hsuf, hdig, hrow, hbel⟩ := hrel
    have hf1 : wr.frozen? ⟨w.heap.size, f - 1, none⟩ = false := World.rowIs.frozen hrow.out _
    have hc1 : wr.cell? ⟨w.heap.size, f - 1, none⟩ = some _ := World.rowIs.cell hrow.out (by omega)
    have hsl := sliceAt_l (P := Tryd.prog) 64 5 20 rfl rfl rfl size_u8 w.heap.size (f - 1) ((f : Int) - 1) (by omega) (by omega)
    by_cases hz : a < 10
    · have ht : ((a : Int) / 10 == 0) = true := by simp; omega
      have hd : ∀ W : World, W.rowIs w.heap.size 64 20 (decRow (f - 1) (UInt8.ofNat (48 + a % 10) :: suf)) →
          (convert 34 9 (.slice (some ⟨w.heap.size, f - 1, none⟩) (20 - (f - 1)) (20 - (f - 1)))).run Tryd.prog W = .ok (.string ⟨(UInt8.ofNat (48 + a % 10) :: suf).toArray⟩) W := fun W h =>
        run_str (rowIs_rd (B := w.heap.size + 1) h (by have := hsuf.out; simp; omega) (by omega) (by omega) (fun i hi => by unfold decRow; rw [if_pos (by omega), Nat.add_sub_cancel_left])) 34 5 9 rfl rfl rfl
      have hfin : (UInt8.ofNat (48 + a % 10) :: suf) = Lib.decDigits x.toNat := by rw [hdig.out, Lib.decDigits, dif_pos hz, Nat.mod_eq_of_lt hz]; rfl
      have HD := Lib.hid hd
      have HF := Lib.hid hfin
      clear hd hfin
      have hd := HD.out _ (decRow_set hrow.out a hf hf20 (by omega))
      go_wp2_with fail
      go_ret
      exact ⟨by rw [← HF.out]; simp, hbel.out.setCell (by simp) _⟩
    · have ht : ((a : Int) / 10 == 0) = false := by simp; omega
      go_wp2_with fail
      go_roundw
      case rel =>
        have hp := hpow.out
        have hs := hsuf.out
        have hf2 : 2 ≤ f := by
          rcases Nat.lt_or_ge f 2 with h | h
          · have : f = 1 := by omega
            subst this
            simp at hp
            omega
          · exact h
        refine ⟨a / 10, f - 1, UInt8.ofNat (48 + a % 10) :: suf, by go_num, by go_num, by omega, by omega, by omega, ?_, by simp [Hid]; omega, ?_, decRow_set hrow.out a hf hf20 (by omega), hbel.out.setCell (by simp) _⟩
        · have e : 10 ^ f = 10 ^ (f - 1) * 10 := by rw [← Nat.pow_succ]; congr 1; omega
          rw [e] at hp
          exact Nat.div_lt_of_lt_mul (by rw [Nat.mul_comm]; exact hp)
        · show Lib.decDigits x.toNat = _
          rw [hdig.out, Lib.decDigits, dif_neg hz]
          simp
      case measure => simp [intOf]; omega
end Go.Proofs.YtlncacfflalacaaDoor
end
