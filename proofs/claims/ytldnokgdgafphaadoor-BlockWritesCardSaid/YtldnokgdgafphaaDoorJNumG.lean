/- What every text of this seat begins with: the words for bytes, and what is asked of the type of a byte. -/
import Derived.Test.YtldnokgdgafphaaDoorJNumW
import Derived.Test.YtldnokgdgafphaaDoorRows
import Derived.WalkLawsBesides
import Derived.BigGuardPart
import Derived.BigQuiet
import Derived.Deep.QuietTactic
import Derived.Deep.DeepFit
import Derived.Deep.DeepCutAuto
import Derived.Outline
import Derived.Lib.Walk
import Derived.Lib.Strings
import Derived.Lib.SlBytesConst
import Derived.BigCall
import Derived.BigGuard
import Derived.Laws.Strings3
import Derived.Laws.IdiomStrings
import Derived.Lib.EndianBits
import Derived.Laws.BitsAllLaws
namespace Go.Proofs.YtldnokgdgafphaaDoor
open Go.RowKit

theorem ret_int {k : IntKind} {a b : Int} (h : a = b) : Ending.returned (.int k a) = .returned (.int k b) := by rw [h]
theorem info_u8 : (Tryd.prog.info? 5).map (fun i => (i.zero, i.size, i.bytes)) = some (some (.int .u8 0), 1, 1) := by kernel_rfl

theorem size_u8 (W : World) : (sizeOf 5).run Tryd.prog W = .ok 1 W := by kernel_rfl

/-- A constant text as bytes. -/
theorem run_const (w : World) (C : Array Value) (n c : Nat) : (convert 23 23 (.slice (some ⟨w.heap.size, 0, none⟩) n c)).run Tryd.prog (w.alloc (.cells C 5)) = .ok (.slice (some ⟨w.heap.size, 0, none⟩) n c) (w.alloc (.cells C 5 (C.size, C.size + 1))) :=
  Lib.run_convert_bytes_const w _ _ C n c (by kernel_rfl) (by kernel_rfl)
end Go.Proofs.YtldnokgdgafphaaDoor
/- Bytes as numbers, the highest first: the plain mathematics of Put and Get. No program's number stands here. -/
namespace Go.Proofs.YtldnokgdgafphaaDoor
open Go.RowKit

/-- A size as Put takes it. -/
def psz (size : Int) : Nat := (min (max size 0) 8).toNat
theorem psz_le (size : Int) : psz size ≤ 8 := by unfold psz; omega
theorem psz_eq (size : Int) : min (max size 0) 8 = (psz size : Int) := by unfold psz; omega

/-- Put's row behind k rounds: the k lowest bytes stand at its end. -/
def putRow (x n k : Nat) : Nat → Value := fun j => if n ≤ j + k then .int .u8 ((UInt8.ofNat (x / 256 ^ (n - 1 - j))).toNat : Int) else .int .u8 0

theorem byte_at_pow (x : Int) (h0 : 0 ≤ x) (k : Nat) : Value.int .u8 (x / 2 ^ (8 * k) % 256) = .int .u8 ((UInt8.ofNat (x.toNat / 256 ^ k)).toNat : Int) := by
  obtain ⟨a, rfl⟩ := Int.eq_ofNat_of_zero_le h0
  rw [UInt8.toNat_ofNat', Int.toNat_natCast]
  have e : (2 : Int) ^ (8 * k) = ((256 ^ k : Nat) : Int) := by
    rw [Int.pow_mul]
    simp
  rw [e]
  congr 1
theorem putRow_step (x : Int) (h0 : 0 ≤ x) (n k j : Nat) (hlt : k < n) (_hj : j < n) :
    (if j = n - 1 - k then Value.int .u8 (x / 2 ^ (8 * k) % 256) else putRow x.toNat n k j) = putRow x.toNat n (k + 1) j := by
  unfold putRow
  by_cases e : j = n - 1 - k
  · subst e
    rw [if_pos rfl, if_pos (by omega), byte_at_pow x h0, show n - 1 - (n - 1 - k) = k by omega]
  · rw [if_neg e]
    by_cases h : n ≤ j + k
    · rw [if_pos h, if_pos (by omega)]
    · rw [if_neg h, if_neg (by omega)]
theorem putRow_end (x n j : Nat) (hj : j < n) : putRow x n n j = .int .u8 (((be x n).getD j 0).toNat : Int) := by
  unfold putRow
  rw [if_pos (by omega)]
  simp [be, List.getD, hj]

theorem or_swap (a b : Int) : bits BinOp.or IntKind.u64 a b = bits BinOp.or IntKind.u64 b a := by
  unfold bits
  simp [BitVec.or_comm]
theorem shl_or (a : Nat) (x : Int) (h0 : 0 ≤ x) (h1 : x < 256) : bits BinOp.or IntKind.u64 (IntKind.u64.wrap ((a : Int) * 256)) x = ((a : Int) * 256 + x) % 18446744073709551616 := by
  rw [or_swap, IntKind.wrap_u64, u64_or8 _ _ h0 h1 (by omega) (by omega) (by omega)]
  omega
theorem beNat_snoc (l : List UInt8) (x : UInt8) : beNat (l ++ [x]) = (beNat l * 256 + x.toNat) % 18446744073709551616 := by
  unfold beNat
  rw [List.foldl_append]
  rfl

theorem be_succ (x n : Nat) : be x (n + 1) = be (x / 256) n ++ [UInt8.ofNat x] := by
  unfold be
  rw [List.range_succ, List.map_append]
  congr 1
  · refine List.map_congr_left fun j hj => ?_
    have hj' : j < n := List.mem_range.1 hj
    rw [show n + 1 - 1 - j = (n - 1 - j) + 1 by omega, Nat.pow_succ, Nat.mul_comm, ← Nat.div_div_eq_div_mul]
  · simp
theorem beNat_be : ∀ (n x : Nat), n ≤ 8 → beNat (be x n) = x % 256 ^ n
  | 0, x, _ => by simp [be, beNat, Nat.mod_one]
  | n + 1, x, h => by
    have hp : 256 ^ (n + 1) ≤ 256 ^ 8 := Nat.pow_le_pow_right (by decide) h
    rw [be_succ, beNat_snoc, beNat_be n (x / 256) (by omega), UInt8.toNat_ofNat']
    have e : x % 256 ^ (n + 1) = x / 256 % 256 ^ n * 256 + x % 256 := by
      rw [Nat.pow_succ, Nat.mul_comm, Nat.mod_mul]
      omega
    have hlt : x % 256 ^ (n + 1) < 256 ^ (n + 1) := Nat.mod_lt _ (Nat.pow_pos (by decide))
    rw [show (2 : Nat) ^ 8 = 256 from rfl, ← e]
    exact Nat.mod_eq_of_lt (Nat.lt_of_lt_of_le hlt hp)

theorem be_lt : ∀ (n x y : Nat), x % 256 ^ n = y % 256 ^ n → be x n = be y n
  | 0, _, _, _ => rfl
  | n + 1, x, y, h => by
    rw [Nat.pow_succ, Nat.mul_comm, Nat.mod_mul, Nat.mod_mul] at h
    have h1 : x % 256 = y % 256 := by omega
    have h2 : x / 256 % 256 ^ n = y / 256 % 256 ^ n := by omega
    rw [be_succ, be_succ, be_lt n _ _ h2]
    congr 2
    apply UInt8.toNat_inj.1
    rw [UInt8.toNat_ofNat', UInt8.toNat_ofNat']
    exact h1
theorem beNat_lt (l : List UInt8) : beNat l < 18446744073709551616 := by
  rcases List.eq_nil_or_concat l with rfl | ⟨r, x, rfl⟩
  · decide
  · rw [List.concat_eq_append, beNat_snoc]; exact Nat.mod_lt _ (by decide)
/-- Eight bytes at most are those of their number. -/
theorem beNat_bd : ∀ (n : Nat) (l : List UInt8), l.length = n → n ≤ 8 → beNat l < 256 ^ n
  | 0, l, h, _ => by obtain rfl := List.eq_nil_of_length_eq_zero h; decide
  | n + 1, l, h, h8 => by
    rcases List.eq_nil_or_concat l with rfl | ⟨r, x, rfl⟩
    · simp at h
    · have hr : r.length = n := by simpa using h
      have ih := beNat_bd n r hr (by omega)
      have hx := x.toNat_lt
      have hp : 256 ^ (n + 1) ≤ 256 ^ 8 := Nat.pow_le_pow_right (by decide) h8
      have e : 256 ^ (n + 1) = 256 ^ n * 256 := Nat.pow_succ ..
      rw [List.concat_eq_append, beNat_snoc, Nat.mod_eq_of_lt (by omega)]
      omega
theorem be_beNat : ∀ (n : Nat) (l : List UInt8), l.length = n → n ≤ 8 → be (beNat l) n = l
  | 0, l, h, _ => by obtain rfl := List.eq_nil_of_length_eq_zero h; rfl
  | n + 1, l, h, h8 => by
    rcases List.eq_nil_or_concat l with rfl | ⟨r, x, rfl⟩
    · simp at h
    · have hr : r.length = n := by simpa using h
      have ih := beNat_bd n r hr (by omega)
      have hx := x.toNat_lt
      have hp : 256 ^ (n + 1) ≤ 256 ^ 8 := Nat.pow_le_pow_right (by decide) h8
      have e : 256 ^ (n + 1) = 256 ^ n * 256 := Nat.pow_succ ..
      rw [List.concat_eq_append, beNat_snoc, Nat.mod_eq_of_lt (by omega), be_succ, show (beNat r * 256 + x.toNat) / 256 = beNat r by omega, be_beNat n r hr (by omega)]
      congr 2
      apply UInt8.toNat_inj.1
      rw [UInt8.toNat_ofNat']
      omega
end Go.Proofs.YtldnokgdgafphaaDoor
/- Same of the reference: whether two slices of bytes read alike. -/
namespace Go.Proofs.YtldnokgdgafphaaDoor
open Go.RowKit

theorem same_any (A A' : Option Addr) (n c n' c' B B' : Nat) (l l' : List UInt8) (w : World) (h : Rd w B A n l) (h' : Rd w B' A' n' l') :
    Calls Tryd.prog 8 #[.slice A n c, .slice A' n' c'] w fun e w' => e = .returned (.bool (l == l')) ∧ w = w' := by
  have g := run_str (P := Tryd.prog) (c := c) h 23 5 9 Tryd.underlying23 Tryd.underlying5 Tryd.underlying9
  have g' := run_str (P := Tryd.prog) (c := c') h' 23 5 9 Tryd.underlying23 Tryd.underlying5 Tryd.underlying9
  clear h h'
  go_enter Tryd.func8, Tryd.ntmps8
  go_wp2
  go_ret
  exact ⟨rfl, rfl⟩

theorem same_true (A A' : Option Addr) (n c n' c' B B' : Nat) (l : List UInt8) (w : World) (h : Rd w B A n l) (h' : Rd w B' A' n' l) :
    Calls Tryd.prog 8 #[.slice A n c, .slice A' n' c'] w fun e w' => e = .returned (.bool true) ∧ w = w' :=
  (same_any A A' n c n' c' B B' l l w h h').mono fun _ _ ⟨he, hw⟩ => ⟨by rw [he, show (l == l) = true by simp], hw⟩
end Go.Proofs.YtldnokgdgafphaaDoor
/- '[]byte(s)' of a string that is no constant: a new slice that reads as its bytes. -/
namespace Go.Proofs.YtldnokgdgafphaaDoor
open Go.RowKit

theorem conv_bytes (W : World) (s : ByteArray) : ∃ (c : Nat) (W' : World), (convert 9 23 (.string s)).run Tryd.prog W = .ok (.slice (some ⟨W.heap.size, 0, none⟩) s.size c) W' ∧
    Rd W' (W.heap.size + 1) (some ⟨W.heap.size, 0, none⟩) s.size s.data.toList ∧ s.size ≤ c ∧ Below W.heap.size W W' ∧ W'.heap.size = W.heap.size + 1 := by
  refine ⟨_, _, run_bytes_of_string W _ _ 5 s Tryd.underlying9 Tryd.underlying23 Tryd.underlying5, ⟨by simp, fun _ => ⟨_, 0, rfl, Nat.lt_succ_self _, fun i hi => ?_⟩⟩, ?_, ?_, ?_⟩
  · rw [Nat.zero_add]
    have h := World.cell?_alloc_mark W.drew (bytesRow s (grownCap W s.size 0 5)) 5 ((bytesRow s (grownCap W s.size 0 5)).size, (bytesRow s (grownCap W s.size 0 5)).size + 1) i
    refine Eq.trans h ?_
    have hi' : i < s.data.size := hi
    unfold bytesRow
    rw [Array.getElem?_append_left (by simpa using hi')]
    simp only [Array.getElem?_map, Array.getElem?_eq_getElem hi', Option.map_some, List.getD, Array.getElem?_toList, Option.getD_some]
  · exact grownCap_ge W s.size 0 _
  · exact ((Below.refl W.heap.size W).drew).alloc (Nat.le_refl _) _
  · simp
end Go.Proofs.YtldnokgdgafphaaDoor
/- What Put returns: the lowest bytes of a number, the highest first, in new memory. -/
namespace Go.Proofs.YtldnokgdgafphaaDoor
open Go.RowKit

set_option maxRecDepth 100000 in
set_option maxHeartbeats 1000000 in
theorem put_any (x size : Int) (w : World) (hx0 : 0 ≤ x) (_hx1 : x < 18446744073709551616) :
    Calls Tryd.prog 73 #[.int .u64 x, .int .i64 size] w fun e w' =>
      e = .returned (.slice (some ⟨w.heap.size, 0, none⟩) (psz size) (psz size)) ∧ Rb w' w.heap.size 5 (psz size) (be x.toNat (psz size)) ∧ Below w.heap.size w w' := by
  have hsz := psz_eq size
  have hle := psz_le size
  generalize psz size = n at *
  have hmk := fun (w : World) => run_make_row' (P := Tryd.prog) 23 5 (.int .u8 0) 1 rfl info_u8 rfl .i64 .i64 n (by omega) (by omega) w
  go_enter Tryd.func73, Tryd.ntmps73
  go_wp2
  go_loopw [13] (fun i wr => ∃ k : Nat, k ≤ n ∧ i = .int .i64 k ∧ Hid (wr.rowIs w.heap.size 5 n (putRow x.toNat n k)) ∧ Hid (Below w.heap.size w wr))
    (fun i _ => n - (intOf i).toNat)
  case atStart => exact ⟨0, Nat.zero_le _, rfl, (World.rowIs_made _ _ _ _).congr (fun j hj => by simp [putRow]; omega), (Below.refl _ _).alloc (Nat.le_refl _) _⟩
  case round =>
    obtain ⟨k, hk, rfl, hrow, hbel⟩ := hrel
    by_cases hlt : k < n
    · have hf1 : wr.frozen? ⟨w.heap.size, n - 1 - k, none⟩ = false := World.rowIs.frozen hrow.out _
      have hc1 : wr.cell? ⟨w.heap.size, n - 1 - k, none⟩ = some _ := World.rowIs.cell hrow.out (by omega)
      go_wp2_with fail
      go_roundw
      case rel =>
        refine ⟨k + 1, by omega, by go_num, (World.rowIs.set hrow.out _ _).congr fun j hj => ?_, hbel.out.setCell (by simp) _⟩
        exact putRow_step x hx0 n k j hlt hj
      case measure => simp [intOf]; omega
    · obtain rfl : k = n := by omega
      have hr : Rb wr w.heap.size 5 k (be x.toNat k) := hrow.out.congr fun j hj => putRow_end x.toNat k j hj
      have HR := Lib.hid hr
      clear hr
      go_wp2
      go_ret
      exact ⟨rfl, HR.out, hbel.out⟩

end Go.Proofs.YtldnokgdgafphaaDoor
/- What Get returns: the number of the last eight bytes. -/
namespace Go.Proofs.YtldnokgdgafphaaDoor
open Go.RowKit

set_option maxRecDepth 100000 in
set_option maxHeartbeats 1000000 in
theorem get_any (A : Option Addr) (n c : Nat) (l : List UInt8) (w : World) (B : Nat) (h : Rd w B A n l) (hn : n ≤ 9223372036854775807) (hc : n ≤ c) (hc2 : c ≤ 9223372036854775807) :
    Calls Tryd.prog 83 #[.slice A n c] w fun e w' => e = .returned (.int .u64 (beNat (l.drop (n - 8)) : Int)) ∧ w = w' := by
  obtain ⟨A', c', hsl, hr⟩ := cut_l (P := Tryd.prog) 23 5 rfl size_u8 c h (max ((n : Int) - 8) 0) (n - 8) (by omega) (by omega) hc
  have hl8 : n - (n - 8) ≤ 8 := by omega
  generalize hm : n - (n - 8) = m at *
  generalize l.drop (n - 8) = L at *
  have HR := Lib.hid hr.2.2
  clear h hc hr
  go_enter Tryd.func83, Tryd.ntmps83
  go_wp2
  go_loop [4, 14] (fun v i => ∃ k : Nat, k ≤ m ∧ i = .int .i64 k ∧ v = .int .u64 (beNat (L.take k) : Int)) (fun _ i => m - (intOf i).toNat)
  case atStart => exact ⟨0, Nat.zero_le _, rfl, by simp [beNat]⟩
  case round =>
    obtain ⟨k, hk, rfl, rfl⟩ := hrel
    by_cases hlt : k < m
    · obtain ⟨b, o, rfl, hb, hcell⟩ := HR.out.2 (by omega)
      obtain ⟨x, hx⟩ : ∃ x, x = L.getD k 0 := ⟨_, rfl⟩
      have hcx : w.cell? ⟨b, o + k, none⟩ = some (.int .u8 (x.toNat : Int)) := by rw [hx]; exact hcell k hlt
      have HC := Lib.hid hcell
      have Hx := Lib.hid hx
      clear hx hcell
      have hx1 : (x.toNat : Int) < 256 := by have := x.toNat_lt; omega
      have hx0 : (0 : Int) ≤ (x.toNat : Int) := by omega
      go_wp2_with fail
      go_round
      case rel =>
        have hl := HR.out.1
        refine ⟨k + 1, by omega, by go_num, ?_⟩
        rw [take_more L k (by omega), ← Hx.out, beNat_snoc, shl_or _ _ hx0 hx1]
        go_num
      case measure => simp [intOf]; omega
    · obtain rfl : k = m := by omega
      have hl := HR.out.1
      have e : L.take k = L := List.take_of_length_le (by omega)
      have HE := Lib.hid e
      clear e hl
      go_wp2
      go_ret
      exact ⟨by rw [HE.out]; rfl, rfl⟩
end Go.Proofs.YtldnokgdgafphaaDoor
/- What bytes.Equal returns. -/
namespace Go.Proofs.YtldnokgdgafphaaDoor
open Go.RowKit

set_option maxRecDepth 100000 in
set_option maxHeartbeats 1000000 in
theorem bequal_any (A A' : Option Addr) (n c n' c' B : Nat) (l l' : List UInt8) (w : World) (h : Rd w B A n l) (h' : Rd w B A' n' l') :
    Calls Tryd.prog 54 #[.slice A n c, .slice A' n' c'] w fun e w' => e = .returned (.bool (l == l')) ∧ w = w' := by
  have r1 := run_str (P := Tryd.prog) (c := c) h 23 5 9 Tryd.underlying23 Tryd.underlying5 Tryd.underlying9
  have r2 := run_str (P := Tryd.prog) (c := c') h' 23 5 9 Tryd.underlying23 Tryd.underlying5 Tryd.underlying9
  have e1 : (⟨l.toArray⟩ : ByteArray).toList = l := by rw [Lib.toList_data]
  have e2 : (⟨l'.toArray⟩ : ByteArray).toList = l' := by rw [Lib.toList_data]
  have HE := Lib.hid (And.intro e1 e2)
  generalize (⟨l.toArray⟩ : ByteArray) = s at *
  generalize (⟨l'.toArray⟩ : ByteArray) = s' at *
  clear h h' e1 e2
  go_enter Tryd.func54, Tryd.ntmps54
  go_wp2_with fail
  go_ret
  refine ⟨?_, rfl⟩
  have h : (s.toList == s'.toList) = (l == l') := by rw [HE.out.1, HE.out.2]
  rw [← h]
  rfl

end Go.Proofs.YtldnokgdgafphaaDoor
