/- Node of layer 4's reference; Item of an endpoint that may not be. -/
import Derived.Test.YtanbjifdcplmnaaGreatDoorTCfBlockTells
import Derived.Test.YtanbjifdcplmnaaGreatDoorTRfI
namespace Go.Proofs.YtanbjifdcplmnaaGreatDoor
open Go.RowKit
open Go.Lib (decDigits)

/-- 's[:k]' of a string. -/
theorem str_to (l : List UInt8) (s : ByteArray) (hl : s.data.toList = l) (k : Int) (m : Nat) (hk : k = (m : Int)) (hm : m ≤ l.length) (W : World) : (Instr.slice 9 (.string s) none (some (.int .i64 k)) none).run Tryz.prog W = .ok (.string (strL (l.take m))) W := by
  have hz : s.size = l.length := by rw [Lib.size_eq, hl]
  rw [run_slice_string_to_if W _ _ _ _ Tryz.underlying9, if_pos (by omega)]
  congr 2
  rw [Lib.extract_eq, hl, hk, Int.toNat_natCast, List.drop_zero]
  unfold strL
  simp

set_option maxRecDepth 100000 in
set_option maxHeartbeats 2000000 in
theorem ritem_no (sc : Int) (s : ByteArray) (n v : Nat) (w : World) (hs : s.size ≤ 140737488355328) (hc : checkB (ep sc s n v) = false) :
    Calls Tryz.prog 22 #[epdV sc s n v] w fun e w' => e = .returned (.tuple #[zeroItem, .int .i64 40]) ∧ Below w.heap.size w w' := by
  have C1 := Lib.hid (fun W => rcheckE_any sc s n v W hs)
  rw [hc] at C1
  have HB0 := Lib.hid (((Below.refl w.heap.size w).alloc (Nat.le_refl _) (.cells #[.int .i64 sc, .string s, .int .u64 (n : Int), .int .u64 (v : Int)] 46)).alloc (le_alloc _ _) (.cells #[.int .i64 0, .int .u64 0, .slice none 0 0, .slice none 0 0] 37))
  have HS0 : Hid (((w.alloc (.cells #[.int .i64 sc, .string s, .int .u64 (n : Int), .int .u64 (v : Int)] 46)).alloc (.cells #[.int .i64 0, .int .u64 0, .slice none 0 0, .slice none 0 0] 37)).heap.size = w.heap.size + 2) := by show _ = _; simp
  have HX := Lib.hid (fun (W : World) (hb : Below (w.heap.size + 2) ((w.alloc (.cells #[.int .i64 sc, .string s, .int .u64 (n : Int), .int .u64 (v : Int)] 46)).alloc (.cells #[.int .i64 0, .int .u64 0, .slice none 0 0, .slice none 0 0] 37)) W) => row_of_box (w := w.alloc (.cells #[.int .i64 sc, .string s, .int .u64 (n : Int), .int .u64 (v : Int)] 46)) (g := w.heap.size + 1) (by simp) hb)
  clear hc hs
  unfold epdV at *
  go_enter Tryz.func22, Tryz.ntmps22
  go_wp2_with fail
  refine (C1.out _).mono ?_
  rintro e w1 ⟨rfl, hb⟩
  have R1 := Lib.hid (HX.out w1 (hb.mono (Nat.le_of_eq HS0.out.symm)))
  have B1 := Lib.hid (HB0.out.trans (hb.mono (by rw [HS0.out]; omega)))
  clear hb
  go_wp2_with (first
    | (refine wpList_st4 rfl 37 (.tmp 2) (.tmp 8) rfl _ _ _ _ _ rfl rfl _ _ R1.out size_it rfl rfl ?_; intro w3 hst3; have B3 := Lib.hid (hst3.2.1 _ _ B1.out (Nat.le_succ _)); have Y3 := Lib.hid hst3.1; clear hst3)
    | fail)
  exact bodyPost_ret (res_it Tryz.results22 _ _ rfl Y3.out rfl) rfl ⟨rfl, B3.out⟩
end Go.Proofs.YtanbjifdcplmnaaGreatDoor
