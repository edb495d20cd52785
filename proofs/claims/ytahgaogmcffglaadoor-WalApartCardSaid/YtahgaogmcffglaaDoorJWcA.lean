/- The code's log: places and heads; put and get. -/
import Derived.Test.YtahgaogmcffglaaDoorJRecU
import Derived.Test.YtahgaogmcffglaaDoorJWmB
namespace Go.Proofs.YtahgaogmcffglaaDoor
open Go.RowKit

/-- A place, and a head, as values. -/
def plV (a n : Nat) : Value := .agg #[.int .i64 (a : Int), .int .i64 (n : Int)]
def hdV (t len : Nat) : Value := .agg #[.int .u64 (t : Int), .int .i64 (len : Int)]

set_option maxRecDepth 100000 in
set_option maxHeartbeats 4000000 in
theorem whalf_any (a n : Nat) (w : World) (hn : 1 ≤ n) (hn2 : n ≤ 140737488355328) :
    Calls Tryd.prog 51 #[plV a n] w fun e w' => e = .returned (.int .i64 (hlf n : Int)) ∧ Below w.heap.size w w' := by
  obtain ⟨m, hm⟩ : ∃ m, m = hlf n := ⟨_, rfl⟩
  have hm2 : m = (n - 1) / 2 := hm
  have w1 : IntKind.i64.wrap ((n : Int) - 1) = (n : Int) - 1 := by rw [IntKind.wrap_i64]; omega
  have e1 : ((n : Int) - 1).tdiv 2 = (m : Int) := by rw [Int.tdiv_eq_ediv_of_nonneg (by omega)]; omega
  have e2 : ((n : Int) - 1) / 2 = (m : Int) := by omega
  have w2 : wrap64 (m : Int) = (m : Int) := by unfold wrap64; omega
  have w3 : IntKind.i64.wrap (m : Int) = (m : Int) := by rw [IntKind.wrap_i64]; omega
  have hb1 : Below w.heap.size w (w.alloc (.cells #[.int .i64 (a : Int), .int .i64 (n : Int)] 58)) := (Below.refl _ _).alloc (Nat.le_refl _) _
  have x1 : (w.alloc (.cells #[.int .i64 (a : Int), .int .i64 (n : Int)] 58)).cell? ⟨w.heap.size, 1, none⟩ = some (.int .i64 (n : Int)) := by rw [cell_of_row _ w.heap.size _ _ _ _ (heap_alloc_new w _)]; rfl
  have HB1 := Lib.hid hb1
  rw [← hm]
  clear hm hm2 hb1
  unfold plV
  go_enter Tryd.func51, Tryd.ntmps51
  go_wp2_with fail
  go_ret
  exact ⟨rfl, HB1.out⟩
set_option maxRecDepth 100000 in
set_option maxHeartbeats 4000000 in
theorem wroom_any (a n : Nat) (w : World) (hn : 1 ≤ n) (hn2 : n ≤ 140737488355328) :
    Calls Tryd.prog 39 #[plV a n] w fun e w' => e = .returned (.int .i64 ((hlf n * 64 : Nat) : Int)) ∧ Below w.heap.size w w' := by
  obtain ⟨m, hm⟩ : ∃ m, m = hlf n := ⟨_, rfl⟩
  have hm2 : m = (n - 1) / 2 := hm
  have w3 : IntKind.i64.wrap ((m : Int) * 64) = ((m * 64 : Nat) : Int) := by rw [IntKind.wrap_i64]; omega
  have hb1 : Below w.heap.size w (w.alloc (.cells #[.int .i64 (a : Int), .int .i64 (n : Int)] 58)) := (Below.refl _ _).alloc (Nat.le_refl _) _
  have x0 : (w.alloc (.cells #[.int .i64 (a : Int), .int .i64 (n : Int)] 58)).cell? ⟨w.heap.size, 0, none⟩ = some (.int .i64 (a : Int)) := by rw [cell_of_row _ w.heap.size _ _ _ _ (heap_alloc_new w _)]; rfl
  have x1 : (w.alloc (.cells #[.int .i64 (a : Int), .int .i64 (n : Int)] 58)).cell? ⟨w.heap.size, 1, none⟩ = some (.int .i64 (n : Int)) := by rw [cell_of_row _ w.heap.size _ _ _ _ (heap_alloc_new w _)]; rfl
  have HB1 := Lib.hid hb1
  have CH := Lib.hid (fun W => whalf_any a n W hn hn2)
  rw [← hm] at *
  clear hm hm2 hb1
  unfold plV at *
  go_enter Tryd.func39, Tryd.ntmps39
  go_wp2_with fail
  refine (CH.out _).mono ?_
  rintro e w2 ⟨rfl, hb2⟩
  have B2 := Lib.hid (HB1.out.trans (hb2.mono HB1.out.size))
  clear hb2 x0 x1
  go_wp2_with fail
  go_ret
  exact ⟨rfl, B2.out⟩
set_option maxRecDepth 100000 in
set_option maxHeartbeats 4000000 in
theorem wsalt_any (a n : Nat) (w : World) (ha : a ≤ 65536) (hn : n ≤ 65536) :
    Calls Tryd.prog 64 #[plV a n] w fun e w' => e = .returned (.int .u64 (saltW a n : Int)) ∧ Below w.heap.size w w' := by
  obtain ⟨w1, hw1⟩ : ∃ w1, w1 = w.alloc (.cells #[.int .i64 (a : Int), .int .i64 (n : Int)] 58) := ⟨_, rfl⟩
  have hb1 : Below w.heap.size w w1 := by rw [hw1]; exact (Below.refl _ _).alloc (Nat.le_refl _) _
  have x0 : w1.cell? ⟨w.heap.size, 0, none⟩ = some (.int .i64 (a : Int)) := by rw [hw1, cell_of_row _ w.heap.size _ _ _ _ (heap_alloc_new w _)]; rfl
  have x1 : w1.cell? ⟨w.heap.size, 1, none⟩ = some (.int .i64 (n : Int)) := by rw [hw1, cell_of_row _ w.heap.size _ _ _ _ (heap_alloc_new w _)]; rfl
  have HB1 := Lib.hid hb1
  have u0 : IntKind.u64.wrap (a : Int) = (a : Int) := by rw [IntKind.wrap_u64]; omega
  have u1 : IntKind.u64.wrap (n : Int) = (n : Int) := by rw [IntKind.wrap_u64]; omega
  have uo : bits BinOp.or IntKind.u64 ((a : Int) * 4294967296) (n : Int) = (saltW a n : Int) := by
    rw [or_swap, u64_or32 _ _ (by omega) (by omega) (by omega) (by omega) (by omega)]
    unfold saltW
    omega
  clear hb1
  unfold plV at *
  go_enter Tryd.func64, Tryd.ntmps64
  rw [hw1] at x0 x1 HB1
  go_wp2_with fail
  go_ret
  exact ⟨rfl, HB1.out⟩
/-- A head's two cells, loaded whole. -/
theorem ld_hd {W : World} {g t len : Nat} (x0 : W.cell? ⟨g, 0, none⟩ = some (.int .u64 (t : Int))) (x1 : W.cell? ⟨g, 1, none⟩ = some (.int .i64 (len : Int))) : (loadVar 61 ⟨g, 0, none⟩).run Tryd.prog W = .ok (hdV t len) W :=
  run_ldN (cs := [.int .u64 (t : Int), .int .i64 (len : Int)]) Tryd.underlying61 rfl (by kernel_rfl) fun j v hj => by
    rw [add_mk]
    match j, hj with
    | 0, hj =>
      simp at hj
      subst hj
      exact x0
    | 1, hj =>
      simp at hj
      subst hj
      exact x1
    | j + 2, hj => simp at hj
theorem res_h1 {fn : Func} {p : Tmp} (h : fn.results = #[.cell p 61]) (tmps : Array Value) (W : World) {g : Nat} {t len : Nat} (hp : tmps.getD p undef = .pointer (some ⟨g, 0, none⟩))
    (x0 : W.cell? ⟨g, 0, none⟩ = some (.int .u64 (t : Int))) (x1 : W.cell? ⟨g, 1, none⟩ = some (.int .i64 (len : Int))) : (results fn tmps).run Tryd.prog W = .ok (hdV t len) W := by
  have e : (results fn tmps).run Tryd.prog W = ((asAddr (tmps.getD p undef)).run Tryd.prog W).andThen fun a w₁ => ((loadVar 61 a).run Tryd.prog w₁) := by
    simp only [results, h]
    simp [Sem.run_bind, Result.andThen]
  rw [e, hp]
  simp only [asAddr, Sem.run_pure, Result.andThen, ld_hd x0 x1]
theorem res_h2 {fn : Func} {p u : Tmp} (h : fn.results = #[.cell p 61, .tmp u]) (tmps : Array Value) (W : World) {g : Nat} {t len : Nat} (hp : tmps.getD p undef = .pointer (some ⟨g, 0, none⟩))
    (x0 : W.cell? ⟨g, 0, none⟩ = some (.int .u64 (t : Int))) (x1 : W.cell? ⟨g, 1, none⟩ = some (.int .i64 (len : Int))) : (results fn tmps).run Tryd.prog W = .ok (.tuple #[hdV t len, tmps.getD u undef]) W := by
  have e : (results fn tmps).run Tryd.prog W = ((asAddr (tmps.getD p undef)).run Tryd.prog W).andThen fun a w₁ => ((loadVar 61 a).run Tryd.prog w₁).andThen fun x w₂ => .ok (.tuple #[x, tmps.getD u undef]) w₂ := by
    simp only [results, h]
    simp [Sem.run_bind, Result.andThen]
  rw [e, hp]
  simp only [asAddr, Sem.run_pure, Result.andThen, ld_hd x0 x1]
set_option maxRecDepth 100000 in
set_option maxHeartbeats 4000000 in
theorem wnext_any (t len : Nat) (w : World) :
    Calls Tryd.prog 41 #[hdV t len] w fun e w' => e = .returned (hdV ((t + 1) % 18446744073709551616) 0) ∧ Below w.heap.size w w' := by
  have u1 : IntKind.u64.wrap ((t : Int) + 1) = (((t + 1) % 18446744073709551616 : Nat) : Int) := by rw [IntKind.wrap_u64]; omega
  unfold hdV
  go_enter Tryd.func41, Tryd.ntmps41
  go_wp2_with fail
  exact bodyPost_ret (res_h1 Tryd.results41 _ _ (t := (t + 1) % 18446744073709551616) (len := 0) rfl (by simp) (by simp)) rfl ⟨rfl, ((Below.refl _ _).alloc (Nat.le_refl _) _).alloc (by simp) _⟩
set_option maxRecDepth 100000 in
set_option maxHeartbeats 4000000 in
theorem wstart_any (a n t len : Nat) (w : World) (ha : a ≤ 65536) (hn : 1 ≤ n) (hn2 : n ≤ 65536) (ht : t < 18446744073709551616) :
    Calls Tryd.prog 56 #[hdV t len, plV a n] w fun e w' => e = .returned (.int .i64 (stW a n t : Int)) ∧ Below w.heap.size w w' := by
  obtain ⟨m, hm⟩ : ∃ m, m = hlf n := ⟨_, rfl⟩
  have hm2 : m ≤ 32768 := by rw [hm]; unfold hlf; omega
  have e1 : (t : Int).tmod 2 = ((t % 2 : Nat) : Int) := by rw [Int.tmod_eq_emod_of_nonneg (by omega)]; omega
  have hz : t % 2 < 2 := Nat.mod_lt _ (by decide)
  obtain ⟨z, hz2⟩ : ∃ z, z = t % 2 := ⟨_, rfl⟩
  have e2 : (t : Int) % 2 = (z : Int) := by omega
  rw [← hz2] at e1 hz
  have hzm : z * m ≤ 32768 := by
    have : z = 0 ∨ z = 1 := by omega
    rcases this with rfl | rfl <;> omega
  have w1 : IntKind.u64.wrap (z : Int) = (z : Int) := by rw [IntKind.wrap_u64]; omega
  have w2 : IntKind.i64.wrap (z : Int) = (z : Int) := by rw [IntKind.wrap_i64]; omega
  have w3 : IntKind.i64.wrap ((z : Int) * (m : Int)) = (z : Int) * (m : Int) := by rw [IntKind.wrap_i64, ← Int.natCast_mul]; omega
  have w4 : IntKind.i64.wrap ((a : Int) + 1) = (a : Int) + 1 := by rw [IntKind.wrap_i64]; omega
  have w5 : IntKind.i64.wrap ((a : Int) + 1 + (z : Int) * (m : Int)) = ((a + 1 + z * m : Nat) : Int) := by rw [IntKind.wrap_i64, ← Int.natCast_mul]; omega
  have HE : Hid (stW a n t = a + 1 + z * m) := by show _ = _; rw [hz2, hm]; rfl
  have CH := Lib.hid (fun W => whalf_any a n W hn (Nat.le_trans hn2 (by decide)))
  rw [← hm] at CH
  obtain ⟨W0, hW0⟩ : ∃ W0, W0 = (w.alloc (.cells #[.int .u64 (t : Int), .int .i64 (len : Int)] 61)).alloc (.cells #[.int .i64 (a : Int), .int .i64 (n : Int)] 58) := ⟨_, rfl⟩
  have hb0 : Below w.heap.size w W0 := by rw [hW0]; exact ((Below.refl _ _).alloc (Nat.le_refl _) _).alloc (by simp) _
  have f0 : W0.cell? ⟨w.heap.size, 0, none⟩ = some (.int .u64 (t : Int)) := by rw [hW0]; simp
  have f1 : W0.cell? ⟨w.heap.size + 1, 0, none⟩ = some (.int .i64 (a : Int)) := by rw [hW0]; simp
  have f2 : W0.cell? ⟨w.heap.size + 1, 1, none⟩ = some (.int .i64 (n : Int)) := by rw [hW0]; simp
  have hs0 : w.heap.size + 2 ≤ W0.heap.size := by rw [hW0]; simp
  have HB0 := Lib.hid hb0
  have HS0 := Lib.hid hs0
  clear hm hm2 hz2 hz hzm ht hb0 hs0
  unfold plV hdV at *
  go_enter Tryd.func56, Tryd.ntmps56
  go_wp2_with fail
  rw [← hW0]
  clear hW0
  go_region_held3 (fun W => W.cell? ⟨w.heap.size, 0, none⟩ = some (.int .u64 (t : Int)) ∧ W.cell? ⟨w.heap.size + 1, 0, none⟩ = some (.int .i64 (a : Int)) ∧ W.cell? ⟨w.heap.size + 1, 1, none⟩ = some (.int .i64 (n : Int)))
    (first | (exact ⟨f0, f1, f2⟩) | (exact ⟨(B1.out.cell (p := ⟨w.heap.size, 0, none⟩) (Nat.lt_of_lt_of_le (Nat.lt_succ_of_lt (Nat.lt_succ_self _)) HS0.out)).trans f0, (B1.out.cell (p := ⟨w.heap.size + 1, 0, none⟩) (Nat.lt_of_lt_of_le (Nat.lt_succ_self _) HS0.out)).trans f1, (B1.out.cell (p := ⟨w.heap.size + 1, 1, none⟩) (Nat.lt_of_lt_of_le (Nat.lt_succ_self _) HS0.out)).trans f2⟩) | fail)
    (first
      | (go_at_call 51; refine (CH.out _).mono ?_; rintro e w1 ⟨rfl, hb⟩; have B1 := Lib.hid (((Below.refl W0.heap.size W0).drew).trans hb); clear hb)
      | fail)
  go_wp2_with fail
  go_ret
  exact ⟨by rw [HE.out]; show Ending.returned (Value.int .i64 ((a : Int) + 1 + (z : Int) * (m : Int))) = _; rw [← Int.natCast_mul]; rfl, HB0.out.trans (B1.out.mono HB0.out.size)⟩
set_option maxRecDepth 100000 in
set_option maxHeartbeats 2000000 in
theorem wput_any (x : Nat) (w : World) (hx1 : x < 18446744073709551616) :
    Calls Tryd.prog 69 #[.int .u64 (x : Int)] w (GivesO 5 (be x 8) w) := by
  have hmk := fun (w : World) => run_make_row' (P := Tryd.prog) 33 5 (.int .u8 0) 1 rfl info_u8 rfl .i64 .i64 8 (by omega) (by omega) w
  have e8 : ((8 : Nat) : Int) = 8 := rfl
  simp only [e8] at hmk
  go_enter Tryd.func69, Tryd.ntmps69
  go_wp2
  go_loopw [4, 8] (fun v4 v8 wr => ∃ k : Nat, k ≤ 8 ∧ v8 = .int .i64 k ∧ Hid (wr.rowIs w.heap.size 5 8 (putRow x 8 k)) ∧ Hid (Below w.heap.size w wr))
    (fun _ i _ => 8 - (intOf i).toNat)
  case atStart => exact ⟨0, Nat.zero_le _, rfl, (World.rowIs_made _ _ _ _).congr (fun j hj => by simp [putRow]; omega), (Below.refl _ _).alloc (Nat.le_refl _) _⟩
  case round =>
    obtain ⟨k, hk, rfl, hrow, hbel⟩ := hrel
    by_cases hlt : k < 8
    · have hf1 : wr.frozen? ⟨w.heap.size, 8 - 1 - k, none⟩ = false := World.rowIs.frozen hrow.out _
      have hc1 : wr.cell? ⟨w.heap.size, 8 - 1 - k, none⟩ = some _ := World.rowIs.cell hrow.out (by omega)
      go_wp2_with fail
      go_roundw
      case rel =>
        refine ⟨k + 1, by omega, by go_num, (World.rowIs.set hrow.out _ _).congr fun j hj => ?_, hbel.out.setCell (by simp) _⟩
        have := putRow_step (x : Int) (by omega) 8 k j hlt hj
        rw [Nat.mul_comm 8 k, Int.toNat_natCast] at this
        exact this
      case measure => simp [intOf]; omega
    · obtain rfl : k = 8 := by omega
      have hr : Rb wr w.heap.size 5 8 (be x 8) := hrow.out.congr fun j hj => putRow_end x 8 j hj
      have HR := Lib.hid hr
      clear hr
      go_wp2
      go_ret
      exact ⟨_, rfl, HR.out.ob14 (be_length _ _) (Nat.le_refl _) (by unfold maxLen; omega), hbel.out⟩
set_option maxRecDepth 100000 in
set_option maxHeartbeats 1000000 in
theorem wget_any (A : Option Addr) (n c : Nat) (l : List UInt8) (w : World) (B : Nat) (h : Rd w B A n l) (hn : n ≤ 140737488355328) :
    Calls Tryd.prog 65 #[.slice A n c] w fun e w' => e = .returned (.int .u64 (beNat l : Int)) ∧ w = w' := by
  have HR := Lib.hid h
  clear h
  go_enter Tryd.func65, Tryd.ntmps65
  go_wp2_with fail
  go_loop [3, 5, 8] (fun v _ i => ∃ k : Nat, k ≤ n ∧ i = .int .i64 k ∧ v = .int .u64 (beNat (l.take k) : Int)) (fun _ _ i => n - (intOf i).toNat)
  case atStart => exact ⟨0, Nat.zero_le _, rfl, by simp [beNat]⟩
  case round =>
    obtain ⟨k, hk, rfl, rfl⟩ := hrel
    by_cases hlt : k < n
    · obtain ⟨b, o, rfl, hb, hcell⟩ := HR.out.2 (by omega)
      obtain ⟨x, hx⟩ : ∃ x, x = l.getD k 0 := ⟨_, rfl⟩
      have hcx : w.cell? ⟨b, o + k, none⟩ = some (.int .u8 (x.toNat : Int)) := by rw [hx]; exact hcell k hlt
      have HC := Lib.hid hcell
      have Hx := Lib.hid hx
      clear hx hcell
      have hx1 : (x.toNat : Int) < 256 := by have := x.toNat_lt; omega
      have hx0 : (0 : Int) ≤ (x.toNat : Int) := by omega
      go_wp2_with fail
      go_round
      case rel =>
        have hl := HR.out.1
        refine ⟨k + 1, by omega, by go_num, ?_⟩
        rw [take_more l k (by omega), ← Hx.out, beNat_snoc, shl_or _ _ hx0 hx1]
        go_num
      case measure => simp [intOf]; omega
    · obtain rfl : k = n := by omega
      have hl := HR.out.1
      have e : l.take k = l := List.take_of_length_le (by omega)
      have HE := Lib.hid e
      clear e hl
      go_wp2
      go_ret
      exact ⟨by rw [HE.out]; rfl, rfl⟩
end Go.Proofs.YtahgaogmcffglaaDoor
