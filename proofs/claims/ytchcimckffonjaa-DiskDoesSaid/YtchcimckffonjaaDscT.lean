/- DiskDoes. (Made by gen/DscT.py.) -/
import Derived.Test.YtchcimckffonjaaDscR
namespace Go.Proofs.Ytchcimckffonjaa
open Go.RowKit

theorem op_info : (Try.prog.info? 31).map (·.size) = some 5 := by kernel_rfl
theorem op_zero (w : World) : (zeroValue 31).run Try.prog w = .ok (.agg #[.int .i64 0, .int .i64 0, .int .u8 0, .int .i64 0, .slice none 0 0]) w :=
  (zero_of_info (P := Try.prog) (t := 31) (v := .agg #[.int .i64 0, .int .i64 0, .int .u8 0, .int .i64 0, .slice none 0 0]) (n := 5) (by kernel_rfl)).1 w
/-- What a call's box is. -/
def opB (x : OpD) : Obj := .cells x.cs.toArray 31 (0, 0)
theorem opB_cell {w : World} {gb : Nat} {x : OpD} (h : w.heap[gb]? = some (opB x)) : w.cell? ⟨gb, 0, none⟩ = some (.int .i64 x.kind) ∧ w.cell? ⟨gb, 1, none⟩ = some (.int .i64 x.at_) ∧ w.cell? ⟨gb, 2, none⟩ = some (.int .u8 (x.fill.toNat : Int)) ∧ w.cell? ⟨gb, 3, none⟩ = some (.int .i64 x.size) ∧ w.cell? ⟨gb, 4, none⟩ = some (.slice x.ad x.n x.c) := by
  have hh : w.heap[gb]? = some (.cells x.cs.toArray 31 (0, 0)) := h
  refine ⟨?_, ?_, ?_, ?_, ?_⟩ <;> (rw [cell_of_row w gb _ _ _ _ hh]; rfl)
/-- Both disks behind i calls, and a block beside them. -/
def At (w0 w : World) (g g2 N i gb : Nat) (o : Obj) : Prop := ∃ C D, Both w0 w g C g2 D gb o ∧ Sim D C ∧ C.waits.length ≤ i ∧ C.secs.length = N
/-- Both disks behind i calls. -/
def Pair (w0 w : World) (g g2 N i : Nat) : Prop := ∃ F F2 C D, CDk w F w0.heap.size g C ∧ RDk w F2 w0.heap.size g2 D ∧ (∀ k, F k → ¬ F2 k) ∧ Below w0.heap.size w0 w ∧ Sim D C ∧ C.waits.length ≤ i ∧ C.secs.length = N
theorem Pair.base {w0 w : World} {g g2 N i : Nat} (h : Pair w0 w g g2 N i) : Below w0.heap.size w0 w := by obtain ⟨F, F2, C, D, -, -, -, h, -⟩ := h; exact h
theorem Pair.box {w0 w w1 : World} {g g2 N i gc : Nat} {o : Obj} (h : Pair w0 w g g2 N i) (hb : Below w.heap.size w w1) (hc : w.heap.size ≤ gc) (ho : w1.heap[gc]? = some o) : At w0 w1 g g2 N i gc o := by
  obtain ⟨F, F2, C, D, h1, h2, h3, h4, h5, h6, h7⟩ := h
  exact ⟨C, D, ⟨F, F2, h1.below hb, h2.below hb, h3, h4.trans (hb.mono h4.size), fun e => by have := (h1.fit _ e).2; omega, fun e => by have := (h2.fit _ e).2; omega, ho⟩, h5, h6, h7⟩
theorem At.pair {w0 w : World} {g g2 N i gb : Nat} {o : Obj} (h : At w0 w g g2 N i gb o) : Pair w0 w g g2 N i := by
  obtain ⟨C, D, ⟨F, F2, h1, h2, h3, h4, -⟩, h5, h6, h7⟩ := h
  exact ⟨F, F2, C, D, h1, h2, h3, h4, h5, h6, h7⟩
def Cd.readv (C : Cd) (at_ : Int) : List UInt8 × Int := if C.power = false then ([], 131) else if at_ < 0 ∨ (C.secs.length : Int) ≤ at_ then ([], 130) else (((layW C.secs C.waits)[at_.toNat]?).getD [], 0)
def Dk.readv (D : Dk) (at_ : Int) : List UInt8 × Int := if D.dead = true then ([], 131) else if at_ < 0 ∨ (D.secs.length : Int) ≤ at_ then ([], 130) else (((layW D.secs D.waits)[at_.toNat]?).getD [], 0)
theorem Sim.readv {D : Dk} {C : Cd} (h : Sim D C) (at_ : Int) : D.readv at_ = C.readv at_ := by
  unfold Dk.readv Cd.readv
  rw [h.secs, h.waits, h.dead]
  cases C.power <;> rfl
theorem CReadR.get {C : Cd} {at_ : Int} {w w' : World} {e : Ending} (h : CReadR C at_ w e w') : ∃ A n c, e = .returned (.tuple #[.slice A n c, .int .i64 (C.readv at_).2]) ∧ Rd w' w'.heap.size A n (C.readv at_).1 ∧ Below w.heap.size w w' := by
  obtain ⟨hb, h⟩ := h
  unfold Cd.readv
  rcases h with ⟨hp, rfl⟩ | ⟨hp, ho, rfl⟩ | ⟨hp, h0, h1, v, l, hl, rfl, ho⟩
  · rw [if_pos hp]; exact ⟨none, 0, 0, rfl, Rd.nil_, hb⟩
  · rw [if_neg (by simp [hp]), if_pos ho]; exact ⟨none, 0, 0, rfl, Rd.nil_, hb⟩
  · rw [if_neg (by simp [hp]), if_neg (by omega), hl]
    obtain ⟨A, c, rfl, -, -, hr⟩ := ho.rd
    exact ⟨A, _, c, rfl, hr, hb⟩
theorem ReadR.get {D : Dk} {at_ : Int} {w w' : World} {e : Ending} (h : ReadR D at_ w e w') : ∃ A n c, e = .returned (.tuple #[.slice A n c, .int .i64 (D.readv at_).2]) ∧ Rd w' w'.heap.size A n (D.readv at_).1 ∧ Below w.heap.size w w' := by
  obtain ⟨hb, h⟩ := h
  unfold Dk.readv
  rcases h with ⟨hp, rfl⟩ | ⟨hp, ho, rfl⟩ | ⟨hp, h0, h1, v, l, hl, rfl, ho⟩
  · rw [if_pos hp]; exact ⟨none, 0, 0, rfl, Rd.nil_, hb⟩
  · rw [if_neg (by simp [hp]), if_pos ho]; exact ⟨none, 0, 0, rfl, Rd.nil_, hb⟩
  · rw [if_neg (by simp [hp]), if_neg (by omega), hl]
    obtain ⟨A, c, rfl, -, -, hr⟩ := ho.rd
    exact ⟨A, _, c, rfl, hr, hb⟩

set_option maxRecDepth 100000 in
set_option maxHeartbeats 16000000 in
theorem diskDoes_walk (n0 : Int) (L : Option Addr) (m cm : Nat) (l : List OpD) (w : World) (hn0 : (Lit.int .i64 n0).wf = true) (hL : RdO13 w L m l ∧ m ≤ cm) :
    Calls Try.prog 4 #[.int .i64 n0, .slice L m cm] w fun e w' => e = .returned (.bool true) ∧ Below w.heap.size w w' := by
  have HL := Lib.hid hL.1
  clear hL
  by_cases hout : (100 < n0 ∧ n0 ≤ 65536) ∨ 300 < m
  · by_cases h1 : 100 < n0
    · by_cases h2 : n0 ≤ 65536
      · go_enter Try.func4, Try.ntmps4
        go_wp2_with fail
        refine (heads13_any w).mono ?_
        rintro e w1 ⟨rfl, hb⟩
        have B1 := Lib.hid hb
        clear hb
        go_wp2_with fail
        go_ret
        exact ⟨rfl, B1.out⟩
      · have t3 : (300 : Int) < m := by omega
        go_enter Try.func4, Try.ntmps4
        go_wp2_with fail
        refine (heads13_any w).mono ?_
        rintro e w1 ⟨rfl, hb⟩
        have B1 := Lib.hid hb
        clear hb
        go_wp2_with fail
        go_ret
        exact ⟨rfl, B1.out⟩
    · have t3 : (300 : Int) < m := by omega
      go_enter Try.func4, Try.ntmps4
      go_wp2_with fail
      refine (heads13_any w).mono ?_
      rintro e w1 ⟨rfl, hb⟩
      have B1 := Lib.hid hb
      clear hb
      go_wp2_with fail
      go_ret
      exact ⟨rfl, B1.out⟩
  have HM : Hid (m ≤ 300) := by show _ ≤ _; omega
  have t3 : ¬ (300 : Int) < m := by omega
  have C0 := Lib.hid (cat_new n0 (Below.refl w.heap.size w))
  by_cases hin : 1 ≤ n0 ∧ n0 ≤ 65536
  case neg =>
    have HIN := Lib.hid hin
    by_cases h1 : n0 < 1
    · have t1 : ¬ 100 < n0 := by omega
      clear hin hout
      go_enter Try.func4, Try.ntmps4
      go_wp2_with fail
      refine C0.out.mono ?_
      rintro e w1 (⟨q1, q2, -⟩ | ⟨-, rfl, hb1⟩)
      · exact absurd ⟨q1, q2⟩ HIN.out
      have B1 := Lib.hid hb1
      clear hb1
      go_wp2_with fail
      refine (rnew_any n0 w1).mono ?_
      rintro e w2 (⟨q1, q2, -⟩ | ⟨-, rfl, hb2⟩)
      · exact absurd ⟨q1, q2⟩ HIN.out
      have B2 : Hid (Below w.heap.size w w2) := B1.out.trans (hb2.mono B1.out.size)
      clear hb2
      go_wp2_with fail
      go_loopw [9] (fun k wr => k = .int .i64 0 ∧ Hid (Below w.heap.size w wr)) (fun _ _ => 0)
      case atStart => exact ⟨rfl, B2.out⟩
      case round =>
        obtain ⟨rfl, HR⟩ := hrel
        by_cases hm0 : 0 < m
        · have tm : (0 : Int) < (m : Int) := by omega
          go_wp2_with fail
          refine (heads13_any wr).mono ?_
          rintro e w3 ⟨rfl, hb⟩
          have B3 := Lib.hid (HR.out.trans (hb.mono HR.out.size))
          clear hb
          go_wp2_with fail
          go_ret
          exact ⟨rfl, B3.out⟩
        · have tm : ¬ (0 : Int) < (m : Int) := by omega
          go_wp2_with fail
          refine (heads13_any wr).mono ?_
          rintro e w3 ⟨rfl, hb⟩
          have B3 := Lib.hid (HR.out.trans (hb.mono HR.out.size))
          clear hb
          go_wp2_with fail
          go_ret
          exact ⟨rfl, B3.out⟩
    · have t1 : 100 < n0 := by omega
      have t2 : ¬ n0 ≤ 65536 := by omega
      clear h1
      clear hin hout
      go_enter Try.func4, Try.ntmps4
      go_wp2_with fail
      refine C0.out.mono ?_
      rintro e w1 (⟨q1, q2, -⟩ | ⟨-, rfl, hb1⟩)
      · exact absurd ⟨q1, q2⟩ HIN.out
      have B1 := Lib.hid hb1
      clear hb1
      go_wp2_with fail
      refine (rnew_any n0 w1).mono ?_
      rintro e w2 (⟨q1, q2, -⟩ | ⟨-, rfl, hb2⟩)
      · exact absurd ⟨q1, q2⟩ HIN.out
      have B2 : Hid (Below w.heap.size w w2) := B1.out.trans (hb2.mono B1.out.size)
      clear hb2
      go_wp2_with fail
      go_loopw [9] (fun k wr => k = .int .i64 0 ∧ Hid (Below w.heap.size w wr)) (fun _ _ => 0)
      case atStart => exact ⟨rfl, B2.out⟩
      case round =>
        obtain ⟨rfl, HR⟩ := hrel
        by_cases hm0 : 0 < m
        · have tm : (0 : Int) < (m : Int) := by omega
          go_wp2_with fail
          refine (heads13_any wr).mono ?_
          rintro e w3 ⟨rfl, hb⟩
          have B3 := Lib.hid (HR.out.trans (hb.mono HR.out.size))
          clear hb
          go_wp2_with fail
          go_ret
          exact ⟨rfl, B3.out⟩
        · have tm : ¬ (0 : Int) < (m : Int) := by omega
          go_wp2_with fail
          refine (heads13_any wr).mono ?_
          rintro e w3 ⟨rfl, hb⟩
          have B3 := Lib.hid (HR.out.trans (hb.mono HR.out.size))
          clear hb
          go_wp2_with fail
          go_ret
          exact ⟨rfl, B3.out⟩
  obtain ⟨N, rfl⟩ : ∃ N : Nat, n0 = (N : Int) := ⟨n0.toNat, by omega⟩
  have hN : 1 ≤ N ∧ N ≤ 100 := by omega
  have HN := Lib.hid hN
  have t1 : ¬ (100 : Int) < (N : Int) := by omega
  clear hin hout hN hn0
  go_enter Try.func4, Try.ntmps4
  go_wp2_with fail
  refine C0.out.mono ?_
  rintro e w1 (⟨-, -, g, rfl, hc⟩ | ⟨hn, -, -⟩)
  case inr => exact absurd ⟨by have := HN.out.1; omega, by have := HN.out.2; omega⟩ hn
  have C1 := Lib.hid hc
  clear hc
  go_wp2_with fail
  refine (rnew_any (N : Int) w1).mono ?_
  rintro e w2 (⟨-, -, F2, g2, rfl, hr, hb⟩ | ⟨hn, -, -⟩)
  case inr => exact absurd ⟨by have := HN.out.1; omega, by have := HN.out.2; omega⟩ hn
  have C3 : Hid (Pair w w2 g g2 N 0) := by
    obtain ⟨F, q1, q2⟩ := C1.out
    refine ⟨F, F2, ⟨List.replicate (N : Int).toNat z64, [], true, -1⟩, ⟨List.replicate (N : Int).toNat (List.replicate 64 0), [], false, false, 0⟩, q1.below hb, hr.mono13 q2.size, fun k hk hk2 => ?_, q2.trans (hb.mono q2.size), ⟨rfl, rfl, rfl, (show (-1 : Int) ≤ 9223372036854775807 by decide), fun _ => ⟨rfl, fun h => absurd h (show ¬ (0 : Int) ≤ -1 by decide)⟩⟩, Nat.le_refl _, by simp⟩
    have h4 := (q1.fit k hk).2
    have h5 := (hr.fit k hk2).1
    omega
  clear hr hb C1
  go_wp2_with fail
  go_loopw [9] (fun k wr => ∃ i : Nat, i ≤ m ∧ k = .int .i64 i ∧ Hid (Pair w wr g g2 N i)) (fun k _ => m - (intOf k).toNat)
  case atStart => exact ⟨0, Nat.zero_le _, rfl, C3.out⟩
  case round =>
    obtain ⟨i, hi, rfl, HR⟩ := hrel
    by_cases hlt : i < m
    case neg =>
      obtain rfl : m = i := by omega
      have tm : ¬ (m : Int) < (m : Int) := by omega
      clear hlt hi
      go_wp2_with fail
      refine (heads13_any wr).mono ?_
      rintro e w3 ⟨rfl, hb⟩
      have B3 := Lib.hid (HR.out.base.trans (hb.mono HR.out.base.size))
      clear hb
      go_wp2_with fail
      go_ret
      exact ⟨rfl, B3.out⟩
    have tm : (i : Int) < (m : Int) := by omega
    have i0 : (0 : Int) ≤ (i : Int) := by omega
    obtain ⟨b, o, x, rfl, hx, hok, hbl, hc⟩ := HL.out.at_ hlt
    have HOK := Lib.hid hok
    have HKW : Hid (Rz13 w x.ad x.n x.ks) := hok.2.2
    have ea : (⟨b, o, none⟩ : Addr).add (i * 5) = ⟨b, o + i * 5, none⟩ := add_mk b o (i * 5)
    have HS : Hid (∀ j v, x.cs[j]? = some v → wr.cell? ((⟨b, o + i * 5, none⟩ : Addr).add j) = some v) := fun j v hv => by rw [add_mk]; exact (HR.out.base.cell (p := ⟨b, o + i * 5 + j, none⟩) hbl).trans (hc j v hv)
    have HLT := Lib.hid hlt
    obtain ⟨wa, hwa⟩ : ∃ wa, wa = wr.alloc (.cells #[.int .i64 0, .int .i64 0, .int .u8 0, .int .i64 0, .slice none 0 0] 31) := ⟨_, rfl⟩
    have XA : Hid (wa.heap[wr.heap.size]? = some (.cells #[.int .i64 0, .int .i64 0, .int .u8 0, .int .i64 0, .slice none 0 0] 31 (0, 0))) := by show _ = _; rw [hwa]; exact heap_alloc_new wr _
    have BA : Hid (Below wr.heap.size wr wa) := by show Below _ _ _; rw [hwa]; exact (Below.refl _ _).alloc (Nat.le_refl _) _
    have WA := Lib.hid hwa
    have CS : Hid (x.cs.length = 5 ∧ ∀ u ∈ x.cs, u.oneCell' = true) := ⟨rfl, by intro u hu; simp only [OpD.cs, List.mem_cons, List.not_mem_nil, or_false] at hu; rcases hu with rfl | rfl | rfl | rfl | rfl <;> rfl⟩
    clear hx hok hbl hc hwa
    by_cases k0 : x.kind = 0
    · have hk : x.kind = 0 := k0
      clear k0
      go_wp2_with (first
        | (refine wpList_ldN rfl 31 (.tmp 59) rfl ⟨b, o + i * 5, none⟩ rfl _ (run_ldN Try.underlying31 rfl (by rw [CS.out.1]; exact op_info) HS.out) ?_)
        | (refine wpList_allocN13 rfl 31 rfl _ op_zero ?_; rw [← WA.out])
        | (refine wpList_stRow13 rfl 31 (.tmp 10) (.tmp 60) rfl wr.heap.size x.cs.toArray rfl rfl 31 _ XA.out (by rw [List.size_toArray, CS.out.1]; exact op_info) (by exact rfl) (fun u hu => CS.out.2 u (by simpa using hu)) ?_; intro w4 r4 o4 b4 z4; have A4 := Lib.hid (HR.out.box (b4 _ _ BA.out (Nat.le_refl _)) (Nat.le_refl _) (show w4.heap[wr.heap.size]? = some (opB x) from r4)); obtain ⟨q0, q1, -, -, q4⟩ := opB_cell (show w4.heap[wr.heap.size]? = some (opB x) from r4); rw [hk] at q0; clear r4 o4 b4 z4)
        | fail)
      obtain ⟨gb, hgb⟩ : ∃ gb, gb = wr.heap.size := ⟨_, rfl⟩
      rw [← hgb] at A4 q0 q1 q4 ⊢
      clear hgb XA BA WA HS CS ea
      clear hk
      obtain ⟨C4, D4, hB4, hs4, hw4, hN4⟩ := A4.out
      have HB4 := Lib.hid hB4
      have HS4 := Lib.hid (And.intro hs4 (And.intro hw4 hN4))
      have HWC : Hid (C4.waits.length ≤ 1000000) := by have h1 := HM.out; have h2 := HLT.out; show _ ≤ _; omega
      have HWD : Hid (D4.waits.length ≤ 1000000) := by show _ ≤ _; rw [hs4.waits]; exact HWC.out
      clear hB4 hs4 hw4 hN4 A4
      obtain ⟨-, -, q2, q3, -⟩ := opB_cell HB4.out.row
      refine wp_region_held_drew (S := fun W => W.cell? ⟨gb, 1, none⟩ = some (.int .i64 x.at_) ∧ W.cell? ⟨gb, 2, none⟩ = some (.int .u8 (x.fill.toNat : Int)) ∧ W.cell? ⟨gb, 3, none⟩ = some (.int .i64 x.size)) (by kernel_rfl) ⟨q1, q2, q3⟩ (fun (hHeld : w4.drew.cell? ⟨gb, 1, none⟩ = some (.int .i64 x.at_) ∧ w4.drew.cell? ⟨gb, 2, none⟩ = some (.int .u8 (x.fill.toNat : Int)) ∧ w4.drew.cell? ⟨gb, 3, none⟩ = some (.int .i64 x.size)) => ?_)
      clear q0 q1 q2 q3 q4
      refine takeR (i := 0) (v := ?v0_1) rfl (by kernel_rfl) (by kernel_rfl) (by kernel_rfl) (fun _ _ _ h => h) (by rfl) ?hy0_1 (by assumption) ?rest0_1
      case hy0_1 => (intro W hSw; have q1 := hSw.1; have q2 := hSw.2.1; have q3 := hSw.2.2; go_simp; try with_reducible rfl)
      try simp only [Act.put]
      try simp only [List.setIfInBounds_toArray]
      try simp only [List.set_cons_succ]
      try simp only [List.set_cons_zero]
      refine takeR (i := 1) (v := ?v1_2) rfl (by kernel_rfl) (by kernel_rfl) (by kernel_rfl) (fun _ _ _ h => h) (by rfl) ?hy1_2 (by assumption) ?rest1_2
      case hy1_2 => (intro W hSw; have q1 := hSw.1; have q2 := hSw.2.1; have q3 := hSw.2.2; go_simp; try with_reducible rfl)
      try simp only [Act.put]
      try simp only [List.setIfInBounds_toArray]
      try simp only [List.set_cons_succ]
      try simp only [List.set_cons_zero]
      refine takeR (i := 2) (v := ?v2_3) rfl (by kernel_rfl) (by kernel_rfl) (by kernel_rfl) (fun _ _ _ h => h) (by rfl) ?hy2_3 (by assumption) ?rest2_3
      case hy2_3 => (intro W hSw; have q1 := hSw.1; have q2 := hSw.2.1; have q3 := hSw.2.2; go_simp; try with_reducible rfl)
      try simp only [Act.put]
      try simp only [List.setIfInBounds_toArray]
      try simp only [List.set_cons_succ]
      try simp only [List.set_cons_zero]
      refine takeR (i := 3) (v := ?v3_4) rfl (by kernel_rfl) (by kernel_rfl) (by kernel_rfl) (fun _ _ _ h => h) (by rfl) ?hy3_4 (by assumption) ?rest3_4
      case hy3_4 => (intro W hSw; have q1 := hSw.1; have q2 := hSw.2.1; have q3 := hSw.2.2; go_simp; try with_reducible rfl)
      try simp only [Act.put]
      try simp only [List.setIfInBounds_toArray]
      try simp only [List.set_cons_succ]
      try simp only [List.set_cons_zero]
      refine takeR (i := 4) (v := ?v4_5) rfl (by kernel_rfl) (by kernel_rfl) (by kernel_rfl) (fun _ _ _ h => h) (by rfl) ?hy4_5 (by assumption) ?rest4_5
      case hy4_5 => (intro W hSw; have q1 := hSw.1; have q2 := hSw.2.1; have q3 := hSw.2.2; go_simp; try with_reducible rfl)
      try simp only [Act.put]
      try simp only [List.setIfInBounds_toArray]
      try simp only [List.set_cons_succ]
      try simp only [List.set_cons_zero]
      refine takeR (i := 5) (v := ?v5_6) rfl (by kernel_rfl) (by kernel_rfl) (by kernel_rfl) (fun _ _ _ h => h) (by rfl) ?hy5_6 (by assumption) ?rest5_6
      case hy5_6 => (intro W hSw; have q1 := hSw.1; have q2 := hSw.2.1; have q3 := hSw.2.2; go_simp; try with_reducible rfl)
      try simp only [Act.put]
      try simp only [List.setIfInBounds_toArray]
      try simp only [List.set_cons_succ]
      try simp only [List.set_cons_zero]
      refine takeR (i := 6) (v := ?v6_7) rfl (by kernel_rfl) (by kernel_rfl) (by kernel_rfl) (fun _ _ _ h => h) (by rfl) ?hy6_7 (by assumption) ?rest6_7
      case hy6_7 => (intro W hSw; have q1 := hSw.1; have q2 := hSw.2.1; have q3 := hSw.2.2; go_simp; try with_reducible rfl)
      try simp only [Act.put]
      try simp only [List.setIfInBounds_toArray]
      try simp only [List.set_cons_succ]
      try simp only [List.set_cons_zero]
      refine takeR (i := 9) (v := ?v9_8) rfl (by kernel_rfl) (by kernel_rfl) (by kernel_rfl) (fun _ _ _ h => h) (by rfl) ?hy9_8 (by assumption) ?rest9_8
      case hy9_8 => (intro W hSw; have q1 := hSw.1; have q2 := hSw.2.1; have q3 := hSw.2.2; go_simp; try with_reducible rfl)
      try simp only [Act.put]
      try simp only [List.setIfInBounds_toArray]
      try simp only [List.set_cons_succ]
      try simp only [List.set_cons_zero]
      refine takeR (i := 10) (v := ?v10_9) rfl (by kernel_rfl) (by kernel_rfl) (by kernel_rfl) (fun _ _ _ h => h) (by rfl) ?hy10_9 (by assumption) ?rest10_9
      case hy10_9 => (intro W hSw; have q1 := hSw.1; have q2 := hSw.2.1; have q3 := hSw.2.2; go_simp; try with_reducible rfl)
      try simp only [Act.put]
      try simp only [List.setIfInBounds_toArray]
      try simp only [List.set_cons_succ]
      try simp only [List.set_cons_zero]
      refine takeR (i := 11) (v := ?v11_10) rfl (by kernel_rfl) (by kernel_rfl) (by kernel_rfl) (fun _ _ _ h => h) (by rfl) ?hy11_10 (by assumption) ?rest11_10
      case hy11_10 => (intro W hSw; have q1 := hSw.1; have q2 := hSw.2.1; have q3 := hSw.2.2; go_simp; try with_reducible rfl)
      try simp only [Act.put]
      try simp only [List.setIfInBounds_toArray]
      try simp only [List.set_cons_succ]
      try simp only [List.set_cons_zero]
      refine takeR (i := 12) (v := ?v12_11) rfl (by kernel_rfl) (by kernel_rfl) (by kernel_rfl) (fun _ _ _ h => h) (by rfl) ?hy12_11 (by assumption) ?rest12_11
      case hy12_11 => (intro W hSw; have q1 := hSw.1; have q2 := hSw.2.1; have q3 := hSw.2.2; go_simp; try with_reducible rfl)
      try simp only [Act.put]
      try simp only [List.setIfInBounds_toArray]
      try simp only [List.set_cons_succ]
      try simp only [List.set_cons_zero]
      refine takeR (i := 13) (v := ?v13_12) rfl (by kernel_rfl) (by kernel_rfl) (by kernel_rfl) (fun _ _ _ h => h) (by rfl) ?hy13_12 (by assumption) ?rest13_12
      case hy13_12 => (intro W hSw; have q1 := hSw.1; have q2 := hSw.2.1; have q3 := hSw.2.2; go_simp; try with_reducible rfl)
      try simp only [Act.put]
      try simp only [List.setIfInBounds_toArray]
      try simp only [List.set_cons_succ]
      try simp only [List.set_cons_zero]
      refine takeR (i := 14) (v := ?v14_13) rfl (by kernel_rfl) (by kernel_rfl) (by kernel_rfl) (fun _ _ _ h => h) (by rfl) ?hy14_13 (by assumption) ?rest14_13
      case hy14_13 => (intro W hSw; have q1 := hSw.1; have q2 := hSw.2.1; have q3 := hSw.2.2; go_simp; try with_reducible rfl)
      try simp only [Act.put]
      try simp only [List.setIfInBounds_toArray]
      try simp only [List.set_cons_succ]
      try simp only [List.set_cons_zero]
      refine takeR (i := 15) (v := ?v15_14) rfl (by kernel_rfl) (by kernel_rfl) (by kernel_rfl) (fun _ _ _ h => h) (by rfl) ?hy15_14 (by assumption) ?rest15_14
      case hy15_14 => (intro W hSw; have q1 := hSw.1; have q2 := hSw.2.1; have q3 := hSw.2.2; go_simp; try with_reducible rfl)
      try simp only [Act.put]
      try simp only [List.setIfInBounds_toArray]
      try simp only [List.set_cons_succ]
      try simp only [List.set_cons_zero]
      have HBD := Lib.hid (HB4.out.below ((Below.refl _ _).drew))
      clear hHeld
      refine wpAnyH_ready (rs := [7]) (by kernel_rfl) (by simp) ?_
      refine AllReadyH.cons rfl (fun K hK => ?_) AllReadyH.nil
      rw [if_pos (by rfl)]
      go_simp
      refine (sector_any x.fill x.size w4.drew).mono ?_
      rintro e w5 ⟨v5, rfl, ho5, hb5⟩
      have O5 := Lib.hid (And.intro ho5 hb5)
      have HB5 := Lib.hid (HBD.out.below hb5)
      clear ho5 hb5
      refine hK.out _ _ (⟨(opB_cell HB5.out.row).2.1, (opB_cell HB5.out.row).2.2.1, (opB_cell HB5.out.row).2.2.2.1⟩) (fun hHeld => ?_)
      try simp only [Act.put]
      try simp only [List.setIfInBounds_toArray]
      try simp only [List.set_cons_succ]
      try simp only [List.set_cons_zero]
      clear hK K
      clear hHeld
      refine wpAnyH_ready (rs := [8]) (by kernel_rfl) (by simp) ?_
      refine AllReadyH.cons rfl (fun K hK => ?_) AllReadyH.nil
      rw [if_pos (by rfl)]
      go_simp
      refine (bothC_write x.at_ HBD.out O5.out.2 O5.out.1 HWC.out).mono ?_
      rintro e w6 ⟨rfl, hB6⟩
      have HB6 := Lib.hid hB6
      clear hB6
      refine hK.out _ _ (⟨(opB_cell HB6.out.row).2.1, (opB_cell HB6.out.row).2.2.1, (opB_cell HB6.out.row).2.2.2.1⟩) (fun hHeld => ?_)
      try simp only [Act.put]
      try simp only [List.setIfInBounds_toArray]
      try simp only [List.set_cons_succ]
      try simp only [List.set_cons_zero]
      clear hK K
      clear hHeld
      refine wpAnyH_ready (rs := [16]) (by kernel_rfl) (by simp) ?_
      refine AllReadyH.cons rfl (fun K hK => ?_) AllReadyH.nil
      rw [if_pos (by rfl)]
      go_simp
      refine (sector_any x.fill x.size w6).mono ?_
      rintro e w7 ⟨v7, rfl, ho7, hb7⟩
      have O7 := Lib.hid (And.intro ho7 hb7)
      have HB7 := Lib.hid (HB6.out.below hb7)
      clear ho7 hb7
      refine hK.out _ _ (⟨(opB_cell HB7.out.row).2.1, (opB_cell HB7.out.row).2.2.1, (opB_cell HB7.out.row).2.2.2.1⟩) (fun hHeld => ?_)
      try simp only [Act.put]
      try simp only [List.setIfInBounds_toArray]
      try simp only [List.set_cons_succ]
      try simp only [List.set_cons_zero]
      clear hK K
      clear hHeld
      refine wpAnyH_ready (rs := [17]) (by kernel_rfl) (by simp) ?_
      refine AllReadyH.cons rfl (fun K hK => ?_) AllReadyH.nil
      rw [if_pos (by rfl)]
      go_simp
      refine (bothR_write x.at_ HB6.out O7.out.2 O7.out.1 HWD.out).mono ?_
      rintro e w8 ⟨rfl, hB8⟩
      have HB8 := Lib.hid hB8
      clear hB8
      rw [(HS4.out.1.write x.at_ (secB x.fill x.size.toNat)).1]
      refine hK.out _ _ (⟨(opB_cell HB8.out.row).2.1, (opB_cell HB8.out.row).2.2.1, (opB_cell HB8.out.row).2.2.2.1⟩) (fun hHeld => ?_)
      try simp only [Act.put]
      try simp only [List.setIfInBounds_toArray]
      try simp only [List.set_cons_succ]
      try simp only [List.set_cons_zero]
      clear hK K
      have A9 : Hid (At w w8 g g2 N (i + 1) gb (opB x)) := ⟨_, _, HB8.out, (HS4.out.1.write x.at_ (secB x.fill x.size.toNat)).2, Nat.le_trans Cd.write_len.2 (Nat.succ_le_succ HS4.out.2.1), by rw [Cd.write_len.1]; exact HS4.out.2.2⟩
      generalize (C4.write x.at_ (secB x.fill x.size.toNat)).2 = r at *
      refine takeR (i := 18) (v := ?v18_15) rfl (by kernel_rfl) (by kernel_rfl) (by kernel_rfl) (fun _ _ _ h => h) (by rfl) ?hy18_15 (by assumption) ?rest18_15
      case hy18_15 => (intro W hSw; go_simp; try with_reducible rfl)
      try simp only [Act.put]
      try simp only [List.setIfInBounds_toArray]
      try simp only [List.set_cons_succ]
      try simp only [List.set_cons_zero]
      clear hHeld
      refine wpAnyH_done (by kernel_rfl) ?_ _
      obtain ⟨C9, D9, hB, hs, hw, hNN⟩ := A9.out
      have HB := Lib.hid hB
      have HS9 := Lib.hid (And.intro hs (And.intro hw hNN))
      have EP : Hid ((!D9.dead) = C9.power) := by show _ = _; rw [hs.dead]; cases C9.power <;> rfl
      have EW : Hid (D9.waits.length = C9.waits.length) := by show _ = _; rw [hs.waits]
      have A8 := Lib.hid A9.out.pair
      clear hB hs hw hNN A9
      go_wp2_with fail
      refine (bothC_alive HB.out).mono ?_
      rintro e w20 ⟨rfl, rfl⟩
      go_wp2_with fail
      refine (bothR_alive HB.out).mono ?_
      rintro e w20 ⟨rfl, rfl⟩
      rw [EP.out]
      go_wp2_with fail
      refine (bothC_waiting HB.out).mono ?_
      rintro e w20 ⟨rfl, rfl⟩
      go_wp2_with fail
      refine (bothR_waiting HB.out).mono ?_
      rintro e w20 ⟨rfl, rfl⟩
      rw [EW.out]
      go_wp2_with fail
      refine (bothC_sectors HB.out).mono ?_
      rintro e w20 ⟨rfl, rfl⟩
      rw [HS9.out.2.2]
      have tlt := HLT.out
      have tm9 := HM.out
      go_wp2_with fail
      go_roundw
      case rel => exact ⟨i + 1, by have := HLT.out; omega, by simp, A8⟩
      case measure => simp [intOf]; have := HLT.out; omega
    by_cases k1 : x.kind = 1
    · have hk : x.kind = 1 := k1
      clear k0 k1
      go_wp2_with (first
        | (refine wpList_ldN rfl 31 (.tmp 59) rfl ⟨b, o + i * 5, none⟩ rfl _ (run_ldN Try.underlying31 rfl (by rw [CS.out.1]; exact op_info) HS.out) ?_)
        | (refine wpList_allocN13 rfl 31 rfl _ op_zero ?_; rw [← WA.out])
        | (refine wpList_stRow13 rfl 31 (.tmp 10) (.tmp 60) rfl wr.heap.size x.cs.toArray rfl rfl 31 _ XA.out (by rw [List.size_toArray, CS.out.1]; exact op_info) (by exact rfl) (fun u hu => CS.out.2 u (by simpa using hu)) ?_; intro w4 r4 o4 b4 z4; have A4 := Lib.hid (HR.out.box (b4 _ _ BA.out (Nat.le_refl _)) (Nat.le_refl _) (show w4.heap[wr.heap.size]? = some (opB x) from r4)); obtain ⟨q0, q1, -, -, q4⟩ := opB_cell (show w4.heap[wr.heap.size]? = some (opB x) from r4); rw [hk] at q0; clear r4 o4 b4 z4)
        | fail)
      obtain ⟨gb, hgb⟩ : ∃ gb, gb = wr.heap.size := ⟨_, rfl⟩
      rw [← hgb] at A4 q0 q1 q4 ⊢
      clear hgb XA BA WA HS CS ea
      clear hk
      obtain ⟨C4, D4, hB4, hs4, hw4, hN4⟩ := A4.out
      have HB4 := Lib.hid hB4
      have HS4 := Lib.hid (And.intro hs4 (And.intro hw4 hN4))
      have HWC : Hid (C4.waits.length ≤ 1000000) := by have h1 := HM.out; have h2 := HLT.out; show _ ≤ _; omega
      have HWD : Hid (D4.waits.length ≤ 1000000) := by show _ ≤ _; rw [hs4.waits]; exact HWC.out
      clear hB4 hs4 hw4 hN4 A4
      refine (bothC_flush HB4.out HWC.out).mono ?_
      rintro e w5 ⟨rfl, hB5⟩
      have HB5 := Lib.hid hB5
      clear hB5 q0 q1 q4
      go_wp2_with fail
      refine (bothR_flush HB5.out HWD.out).mono ?_
      rintro e w6 ⟨rfl, hB6⟩
      have HB6 := Lib.hid hB6
      clear hB6
      rw [HS4.out.1.flush.1]
      have A9 : Hid (At w w6 g g2 N (i + 1) gb (opB x)) := ⟨_, _, HB6.out, HS4.out.1.flush.2, Nat.le_succ_of_le (Nat.le_trans Cd.flush_len.2 HS4.out.2.1), by rw [Cd.flush_len.1]; exact HS4.out.2.2⟩
      generalize C4.flush.2 = r at *
      obtain ⟨C9, D9, hB, hs, hw, hNN⟩ := A9.out
      have HB := Lib.hid hB
      have HS9 := Lib.hid (And.intro hs (And.intro hw hNN))
      have EP : Hid ((!D9.dead) = C9.power) := by show _ = _; rw [hs.dead]; cases C9.power <;> rfl
      have EW : Hid (D9.waits.length = C9.waits.length) := by show _ = _; rw [hs.waits]
      have A8 := Lib.hid A9.out.pair
      clear hB hs hw hNN A9
      go_wp2_with fail
      refine (bothC_alive HB.out).mono ?_
      rintro e w20 ⟨rfl, rfl⟩
      go_wp2_with fail
      refine (bothR_alive HB.out).mono ?_
      rintro e w20 ⟨rfl, rfl⟩
      rw [EP.out]
      go_wp2_with fail
      refine (bothC_waiting HB.out).mono ?_
      rintro e w20 ⟨rfl, rfl⟩
      go_wp2_with fail
      refine (bothR_waiting HB.out).mono ?_
      rintro e w20 ⟨rfl, rfl⟩
      rw [EW.out]
      go_wp2_with fail
      refine (bothC_sectors HB.out).mono ?_
      rintro e w20 ⟨rfl, rfl⟩
      rw [HS9.out.2.2]
      have tlt := HLT.out
      have tm9 := HM.out
      go_wp2_with fail
      go_roundw
      case rel => exact ⟨i + 1, by have := HLT.out; omega, by simp, A8⟩
      case measure => simp [intOf]; have := HLT.out; omega
    by_cases k2 : x.kind = 2
    · have hk : x.kind = 2 := k2
      clear k0 k1 k2
      go_wp2_with (first
        | (refine wpList_ldN rfl 31 (.tmp 59) rfl ⟨b, o + i * 5, none⟩ rfl _ (run_ldN Try.underlying31 rfl (by rw [CS.out.1]; exact op_info) HS.out) ?_)
        | (refine wpList_allocN13 rfl 31 rfl _ op_zero ?_; rw [← WA.out])
        | (refine wpList_stRow13 rfl 31 (.tmp 10) (.tmp 60) rfl wr.heap.size x.cs.toArray rfl rfl 31 _ XA.out (by rw [List.size_toArray, CS.out.1]; exact op_info) (by exact rfl) (fun u hu => CS.out.2 u (by simpa using hu)) ?_; intro w4 r4 o4 b4 z4; have A4 := Lib.hid (HR.out.box (b4 _ _ BA.out (Nat.le_refl _)) (Nat.le_refl _) (show w4.heap[wr.heap.size]? = some (opB x) from r4)); obtain ⟨q0, q1, -, -, q4⟩ := opB_cell (show w4.heap[wr.heap.size]? = some (opB x) from r4); rw [hk] at q0; clear r4 o4 b4 z4)
        | fail)
      obtain ⟨gb, hgb⟩ : ∃ gb, gb = wr.heap.size := ⟨_, rfl⟩
      rw [← hgb] at A4 q0 q1 q4 ⊢
      clear hgb XA BA WA HS CS ea
      clear hk
      obtain ⟨C4, D4, hB4, hs4, hw4, hN4⟩ := A4.out
      have HB4 := Lib.hid hB4
      have HS4 := Lib.hid (And.intro hs4 (And.intro hw4 hN4))
      have HWC : Hid (C4.waits.length ≤ 1000000) := by have h1 := HM.out; have h2 := HLT.out; show _ ≤ _; omega
      have HWD : Hid (D4.waits.length ≤ 1000000) := by show _ ≤ _; rw [hs4.waits]; exact HWC.out
      clear hB4 hs4 hw4 hN4 A4
      refine (bothC_read x.at_ HB4.out HWC.out).mono ?_
      rintro e w5 h5
      obtain ⟨A5, n5, c5, rfl, hr5, hb5⟩ := h5.get
      have HB5 := Lib.hid (HB4.out.below hb5)
      have R5 := Lib.hid hr5
      clear h5 hr5 hb5 q0 q1 q4
      obtain ⟨-, q1, -, -, -⟩ := opB_cell HB5.out.row
      go_wp2_with fail
      refine (bothR_read x.at_ HB5.out HWD.out).mono ?_
      rintro e w6 h6
      obtain ⟨A6, n6, c6, rfl, hr6, hb6⟩ := h6.get
      rw [HS4.out.1.readv x.at_] at hr6 ⊢
      have HB6 := Lib.hid (HB5.out.below hb6)
      have R6 := Lib.hid (And.intro hr6 hb6)
      clear h6 hr6 hb6 q1
      go_wp2_with fail
      refine (same_true A5 A6 n5 c5 n6 c6 w5.heap.size w6.heap.size _ w6 (R5.out.below R6.out.2) R6.out.1).mono ?_
      rintro e w7 ⟨rfl, rfl⟩
      have A9 : Hid (At w w6 g g2 N (i + 1) gb (opB x)) := ⟨_, _, HB6.out, HS4.out.1, Nat.le_succ_of_le HS4.out.2.1, HS4.out.2.2⟩
      clear R5 R6
      generalize (C4.readv x.at_).2 = r at *
      obtain ⟨C9, D9, hB, hs, hw, hNN⟩ := A9.out
      have HB := Lib.hid hB
      have HS9 := Lib.hid (And.intro hs (And.intro hw hNN))
      have EP : Hid ((!D9.dead) = C9.power) := by show _ = _; rw [hs.dead]; cases C9.power <;> rfl
      have EW : Hid (D9.waits.length = C9.waits.length) := by show _ = _; rw [hs.waits]
      have A8 := Lib.hid A9.out.pair
      clear hB hs hw hNN A9
      go_wp2_with fail
      refine (bothC_alive HB.out).mono ?_
      rintro e w20 ⟨rfl, rfl⟩
      go_wp2_with fail
      refine (bothR_alive HB.out).mono ?_
      rintro e w20 ⟨rfl, rfl⟩
      rw [EP.out]
      go_wp2_with fail
      refine (bothC_waiting HB.out).mono ?_
      rintro e w20 ⟨rfl, rfl⟩
      go_wp2_with fail
      refine (bothR_waiting HB.out).mono ?_
      rintro e w20 ⟨rfl, rfl⟩
      rw [EW.out]
      go_wp2_with fail
      refine (bothC_sectors HB.out).mono ?_
      rintro e w20 ⟨rfl, rfl⟩
      rw [HS9.out.2.2]
      have tlt := HLT.out
      have tm9 := HM.out
      go_wp2_with fail
      go_roundw
      case rel => exact ⟨i + 1, by have := HLT.out; omega, by simp, A8⟩
      case measure => simp [intOf]; have := HLT.out; omega
    by_cases k3 : x.kind = 3
    · have hk : x.kind = 3 := k3
      clear k0 k1 k2 k3
      go_wp2_with (first
        | (refine wpList_ldN rfl 31 (.tmp 59) rfl ⟨b, o + i * 5, none⟩ rfl _ (run_ldN Try.underlying31 rfl (by rw [CS.out.1]; exact op_info) HS.out) ?_)
        | (refine wpList_allocN13 rfl 31 rfl _ op_zero ?_; rw [← WA.out])
        | (refine wpList_stRow13 rfl 31 (.tmp 10) (.tmp 60) rfl wr.heap.size x.cs.toArray rfl rfl 31 _ XA.out (by rw [List.size_toArray, CS.out.1]; exact op_info) (by exact rfl) (fun u hu => CS.out.2 u (by simpa using hu)) ?_; intro w4 r4 o4 b4 z4; have A4 := Lib.hid (HR.out.box (b4 _ _ BA.out (Nat.le_refl _)) (Nat.le_refl _) (show w4.heap[wr.heap.size]? = some (opB x) from r4)); obtain ⟨q0, q1, -, -, q4⟩ := opB_cell (show w4.heap[wr.heap.size]? = some (opB x) from r4); rw [hk] at q0; clear r4 o4 b4 z4)
        | fail)
      obtain ⟨gb, hgb⟩ : ∃ gb, gb = wr.heap.size := ⟨_, rfl⟩
      rw [← hgb] at A4 q0 q1 q4 ⊢
      clear hgb XA BA WA HS CS ea
      clear hk
      obtain ⟨C4, D4, hB4, hs4, hw4, hN4⟩ := A4.out
      have HB4 := Lib.hid hB4
      have HS4 := Lib.hid (And.intro hs4 (And.intro hw4 hN4))
      have HWC : Hid (C4.waits.length ≤ 1000000) := by have h1 := HM.out; have h2 := HLT.out; show _ ≤ _; omega
      have HWD : Hid (D4.waits.length ≤ 1000000) := by show _ ≤ _; rw [hs4.waits]; exact HWC.out
      clear hB4 hs4 hw4 hN4 A4
      refine (bothC_arm x.at_ HB4.out).mono ?_
      rintro e w5 ⟨rfl, hB5⟩
      have HB5 := Lib.hid hB5
      clear hB5 q0 q1 q4
      obtain ⟨-, q1, -, -, -⟩ := opB_cell HB5.out.row
      go_wp2_with fail
      refine (bothR_arm x.at_ HB5.out).mono ?_
      rintro e w6 ⟨rfl, hB6⟩
      have HB6 := Lib.hid hB6
      clear hB6 q1
      have A9 : Hid (At w w6 g g2 N (i + 1) gb (opB x)) := ⟨_, _, HB6.out, HS4.out.1.armed x.at_ HOK.out.1, Nat.le_succ_of_le HS4.out.2.1, HS4.out.2.2⟩
      obtain ⟨C9, D9, hB, hs, hw, hNN⟩ := A9.out
      have HB := Lib.hid hB
      have HS9 := Lib.hid (And.intro hs (And.intro hw hNN))
      have EP : Hid ((!D9.dead) = C9.power) := by show _ = _; rw [hs.dead]; cases C9.power <;> rfl
      have EW : Hid (D9.waits.length = C9.waits.length) := by show _ = _; rw [hs.waits]
      have A8 := Lib.hid A9.out.pair
      clear hB hs hw hNN A9
      go_wp2_with fail
      refine (bothC_alive HB.out).mono ?_
      rintro e w20 ⟨rfl, rfl⟩
      go_wp2_with fail
      refine (bothR_alive HB.out).mono ?_
      rintro e w20 ⟨rfl, rfl⟩
      rw [EP.out]
      go_wp2_with fail
      refine (bothC_waiting HB.out).mono ?_
      rintro e w20 ⟨rfl, rfl⟩
      go_wp2_with fail
      refine (bothR_waiting HB.out).mono ?_
      rintro e w20 ⟨rfl, rfl⟩
      rw [EW.out]
      go_wp2_with fail
      refine (bothC_sectors HB.out).mono ?_
      rintro e w20 ⟨rfl, rfl⟩
      rw [HS9.out.2.2]
      have tlt := HLT.out
      have tm9 := HM.out
      go_wp2_with fail
      go_roundw
      case rel => exact ⟨i + 1, by have := HLT.out; omega, by simp, A8⟩
      case measure => simp [intOf]; have := HLT.out; omega
    by_cases k4 : x.kind = 4
    · have hk : x.kind = 4 := k4
      clear k0 k1 k2 k3 k4
      go_wp2_with (first
        | (refine wpList_ldN rfl 31 (.tmp 59) rfl ⟨b, o + i * 5, none⟩ rfl _ (run_ldN Try.underlying31 rfl (by rw [CS.out.1]; exact op_info) HS.out) ?_)
        | (refine wpList_allocN13 rfl 31 rfl _ op_zero ?_; rw [← WA.out])
        | (refine wpList_stRow13 rfl 31 (.tmp 10) (.tmp 60) rfl wr.heap.size x.cs.toArray rfl rfl 31 _ XA.out (by rw [List.size_toArray, CS.out.1]; exact op_info) (by exact rfl) (fun u hu => CS.out.2 u (by simpa using hu)) ?_; intro w4 r4 o4 b4 z4; have A4 := Lib.hid (HR.out.box (b4 _ _ BA.out (Nat.le_refl _)) (Nat.le_refl _) (show w4.heap[wr.heap.size]? = some (opB x) from r4)); obtain ⟨q0, q1, -, -, q4⟩ := opB_cell (show w4.heap[wr.heap.size]? = some (opB x) from r4); rw [hk] at q0; clear r4 o4 b4 z4)
        | fail)
      obtain ⟨gb, hgb⟩ : ∃ gb, gb = wr.heap.size := ⟨_, rfl⟩
      rw [← hgb] at A4 q0 q1 q4 ⊢
      clear hgb XA BA WA HS CS ea
      clear hk
      obtain ⟨C4, D4, hB4, hs4, hw4, hN4⟩ := A4.out
      have HB4 := Lib.hid hB4
      have HS4 := Lib.hid (And.intro hs4 (And.intro hw4 hN4))
      have HWC : Hid (C4.waits.length ≤ 1000000) := by have h1 := HM.out; have h2 := HLT.out; show _ ≤ _; omega
      have HWD : Hid (D4.waits.length ≤ 1000000) := by show _ ≤ _; rw [hs4.waits]; exact HWC.out
      clear hB4 hs4 hw4 hN4 A4
      have HKS : Hid (Rz13 w x.ad x.n x.ks) := HKW.out
      refine (bothC_crash (c := x.c) HB4.out HWC.out HKS.out).mono ?_
      rintro e w5 ⟨rfl, hB5⟩
      have HB5 := Lib.hid hB5
      clear hB5 q0 q1 q4
      obtain ⟨-, -, -, -, q4⟩ := opB_cell HB5.out.row
      go_wp2_with fail
      refine (bothR_crash (c := x.c) HB5.out HWD.out HKS.out).mono ?_
      rintro e w6 ⟨rfl, hB6⟩
      have HB6 := Lib.hid hB6
      clear hB6 q4
      have A9 : Hid (At w w6 g g2 N (i + 1) gb (opB x)) := ⟨_, _, HB6.out, HS4.out.1.crash x.ks, Nat.le_succ_of_le (Nat.le_trans Cd.crash_len.2 HS4.out.2.1), by rw [Cd.crash_len.1]; exact HS4.out.2.2⟩
      obtain ⟨C9, D9, hB, hs, hw, hNN⟩ := A9.out
      have HB := Lib.hid hB
      have HS9 := Lib.hid (And.intro hs (And.intro hw hNN))
      have EP : Hid ((!D9.dead) = C9.power) := by show _ = _; rw [hs.dead]; cases C9.power <;> rfl
      have EW : Hid (D9.waits.length = C9.waits.length) := by show _ = _; rw [hs.waits]
      have A8 := Lib.hid A9.out.pair
      clear hB hs hw hNN A9
      go_wp2_with fail
      refine (bothC_alive HB.out).mono ?_
      rintro e w20 ⟨rfl, rfl⟩
      go_wp2_with fail
      refine (bothR_alive HB.out).mono ?_
      rintro e w20 ⟨rfl, rfl⟩
      rw [EP.out]
      go_wp2_with fail
      refine (bothC_waiting HB.out).mono ?_
      rintro e w20 ⟨rfl, rfl⟩
      go_wp2_with fail
      refine (bothR_waiting HB.out).mono ?_
      rintro e w20 ⟨rfl, rfl⟩
      rw [EW.out]
      go_wp2_with fail
      refine (bothC_sectors HB.out).mono ?_
      rintro e w20 ⟨rfl, rfl⟩
      rw [HS9.out.2.2]
      have tlt := HLT.out
      have tm9 := HM.out
      go_wp2_with fail
      go_roundw
      case rel => exact ⟨i + 1, by have := HLT.out; omega, by simp, A8⟩
      case measure => simp [intOf]; have := HLT.out; omega
    have e0 : (x.kind == 0) = false := by simpa using k0
    have e1 : (x.kind == 1) = false := by simpa using k1
    have e2 : (x.kind == 2) = false := by simpa using k2
    have e3 : (x.kind == 3) = false := by simpa using k3
    have e4 : (x.kind == 4) = false := by simpa using k4
    clear k0 k1 k2 k3 k4
    go_wp2_with (first
      | (refine wpList_ldN rfl 31 (.tmp 59) rfl ⟨b, o + i * 5, none⟩ rfl _ (run_ldN Try.underlying31 rfl (by rw [CS.out.1]; exact op_info) HS.out) ?_)
      | (refine wpList_allocN13 rfl 31 rfl _ op_zero ?_; rw [← WA.out])
      | (refine wpList_stRow13 rfl 31 (.tmp 10) (.tmp 60) rfl wr.heap.size x.cs.toArray rfl rfl 31 _ XA.out (by rw [List.size_toArray, CS.out.1]; exact op_info) (by exact rfl) (fun u hu => CS.out.2 u (by simpa using hu)) ?_; intro w4 r4 o4 b4 z4; have A4 := Lib.hid (HR.out.box (b4 _ _ BA.out (Nat.le_refl _)) (Nat.le_refl _) (show w4.heap[wr.heap.size]? = some (opB x) from r4)); obtain ⟨q0, q1, -, -, q4⟩ := opB_cell (show w4.heap[wr.heap.size]? = some (opB x) from r4); clear r4 o4 b4 z4)
      | fail)
    obtain ⟨gb, hgb⟩ : ∃ gb, gb = wr.heap.size := ⟨_, rfl⟩
    rw [← hgb] at A4 q0 q1 q4 ⊢
    clear hgb XA BA WA HS CS ea
    obtain ⟨C4, D4, hB4, hs4, hw4, hN4⟩ := A4.out
    have HB4 := Lib.hid hB4
    have HS4 := Lib.hid (And.intro hs4 (And.intro hw4 hN4))
    have HWC : Hid (C4.waits.length ≤ 1000000) := by have h1 := HM.out; have h2 := HLT.out; show _ ≤ _; omega
    have HWD : Hid (D4.waits.length ≤ 1000000) := by show _ ≤ _; rw [hs4.waits]; exact HWC.out
    clear hB4 hs4 hw4 hN4 A4
    refine (bothC_start HB4.out).mono ?_
    rintro e w5 ⟨rfl, hB5⟩
    have HB5 := Lib.hid hB5
    clear hB5
    go_wp2_with fail
    refine (bothR_start HB5.out).mono ?_
    rintro e w6 ⟨rfl, hB6⟩
    have HB6 := Lib.hid hB6
    clear hB6 q0 q1 q4
    have A9 : Hid (At w w6 g g2 N (i + 1) gb (opB x)) := ⟨_, _, HB6.out, HS4.out.1.start, Nat.le_succ_of_le HS4.out.2.1, HS4.out.2.2⟩
    obtain ⟨C9, D9, hB, hs, hw, hNN⟩ := A9.out
    have HB := Lib.hid hB
    have HS9 := Lib.hid (And.intro hs (And.intro hw hNN))
    have EP : Hid ((!D9.dead) = C9.power) := by show _ = _; rw [hs.dead]; cases C9.power <;> rfl
    have EW : Hid (D9.waits.length = C9.waits.length) := by show _ = _; rw [hs.waits]
    have A8 := Lib.hid A9.out.pair
    clear hB hs hw hNN A9
    go_wp2_with fail
    refine (bothC_alive HB.out).mono ?_
    rintro e w20 ⟨rfl, rfl⟩
    go_wp2_with fail
    refine (bothR_alive HB.out).mono ?_
    rintro e w20 ⟨rfl, rfl⟩
    rw [EP.out]
    go_wp2_with fail
    refine (bothC_waiting HB.out).mono ?_
    rintro e w20 ⟨rfl, rfl⟩
    go_wp2_with fail
    refine (bothR_waiting HB.out).mono ?_
    rintro e w20 ⟨rfl, rfl⟩
    rw [EW.out]
    go_wp2_with fail
    refine (bothC_sectors HB.out).mono ?_
    rintro e w20 ⟨rfl, rfl⟩
    rw [HS9.out.2.2]
    have tlt := HLT.out
    have tm9 := HM.out
    go_wp2_with fail
    go_roundw
    case rel => exact ⟨i + 1, by have := HLT.out; omega, by simp, A8⟩
    case measure => simp [intOf]; have := HLT.out; omega
end Go.Proofs.Ytchcimckffonjaa
