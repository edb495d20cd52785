/- DiskKeeps. (Made by gen/DscL.py.) -/
import Derived.Test.YtchcimckffonjaaDscK
namespace Go.Proofs.Ytchcimckffonjaa
open Go.RowKit

/-- Some sectors written, one after another. -/
def filled (fs : List UInt8) (n : Nat) : List (Nat × List UInt8) := (List.range n).map fun i => (i, secB (fs.getD i 0) 64)
def secsOf (fs : List UInt8) (n : Nat) : List (List UInt8) := (List.range n).map fun i => secB (fs.getD i 0) 64
theorem filled_snoc (fs : List UInt8) (i : Nat) : filled fs i ++ [(i, secB (fs.getD i 0) 64)] = filled fs (i + 1) := by
  unfold filled
  rw [List.range_succ, List.map_append]
  rfl
theorem filled_len (fs : List UInt8) (n : Nat) : (filled fs n).length = n := by simp [filled]
theorem secsOf_len (fs : List UInt8) (n : Nat) : (secsOf fs n).length = n := by simp [secsOf]
theorem filled_lay (fs : List UInt8) (n : Nat) : layW (List.replicate n z64) (filled fs n) = secsOf fs n := by
  unfold filled
  rw [layW_fill (fun i => secB (fs.getD i 0) 64) _ n (by simp)]
  simp [secsOf]
theorem secsOf_at (fs : List UInt8) (n i : Nat) (h : i < n) : (secsOf fs n)[i]? = some (secB (fs.getD i 0) 64) := by
  unfold secsOf
  rw [List.getElem?_map, List.getElem?_range h]
  rfl
/-- A write, whether it is taken or not, to a disk with power. -/
theorem cat_write_some {w0 w w1 : World} {g : Nat} {S : List (List UInt8)} (at_ : Int) (i : Nat) (h : ∃ ws, ws.length ≤ i ∧ CAt w0 w g ⟨S, ws, true, -1⟩) (hi : i ≤ 1000) (hb : Below w.heap.size w w1) {t : TypeId} {v : Value} {l : List UInt8} (ho : Ob w1 w.heap.size t v l) (hl : l.length = 64) :
    Calls Try.prog 10 #[.pointer (some ⟨g, 0, none⟩), .int .i64 at_, v] w1 fun e w' => ∃ r, e = .returned (.int .i64 r) ∧ ∃ ws, ws.length ≤ i + 1 ∧ CAt w0 w' g ⟨S, ws, true, -1⟩ := by
  obtain ⟨ws, hw, hc⟩ := h
  refine (cat_write at_ hc hb ho (by show ws.length ≤ _; omega)).mono fun e w' h => ?_
  by_cases h0 : at_ < 0 ∨ (S.length : Int) ≤ at_
  · rw [Cd.write_off rfl h0] at h
    exact ⟨130, h.1, ws, by omega, h.2⟩
  · rw [Cd.write_end rfl rfl (by omega) (show at_ < (S.length : Int) by omega) hl] at h
    exact ⟨0, h.1, _, by simp; omega, h.2⟩

set_option maxRecDepth 100000 in
set_option maxHeartbeats 8000000 in
theorem diskKeeps_walk (A : Option Addr) (n c : Nat) (fs : List UInt8) (L : Option Addr) (m cm : Nat) (l : List OpD) (w : World) (hA : Rd w w.heap.size A n fs ∧ n ≤ c ∧ c ≤ 140737488351232) (hL : RdO13 w L m l ∧ m ≤ cm) :
    Calls Try.prog 5 #[.slice A n c, .slice L m cm] w fun e w' => e = .returned (.bool true) ∧ Below w.heap.size w w' := by
  have HA := Lib.hid hA.1
  have HL := Lib.hid hL.1
  clear hA hL
  by_cases hout : n < 1 ∨ 50 < n ∨ 100 < m
  · by_cases h1 : n < 1
    · have t1 : (n : Int) < 1 := by omega
      go_enter Try.func5, Try.ntmps5
      go_wp2_with fail
      refine (heads13_any w).mono ?_
      rintro e w1 ⟨rfl, hb⟩
      have B1 := Lib.hid hb
      clear hb
      go_wp2_with fail
      go_ret
      exact ⟨rfl, B1.out⟩
    have t1 : ¬ (n : Int) < 1 := by omega
    by_cases h2 : 50 < n
    · have t2 : (50 : Int) < n := by omega
      go_enter Try.func5, Try.ntmps5
      go_wp2_with fail
      refine (heads13_any w).mono ?_
      rintro e w1 ⟨rfl, hb⟩
      have B1 := Lib.hid hb
      clear hb
      go_wp2_with fail
      go_ret
      exact ⟨rfl, B1.out⟩
    have t2 : ¬ (50 : Int) < n := by omega
    have t3 : (100 : Int) < m := by omega
    go_enter Try.func5, Try.ntmps5
    go_wp2_with fail
    refine (heads13_any w).mono ?_
    rintro e w1 ⟨rfl, hb⟩
    have B1 := Lib.hid hb
    clear hb
    go_wp2_with fail
    go_ret
    exact ⟨rfl, B1.out⟩
  have hn : 1 ≤ n ∧ n ≤ 50 ∧ m ≤ 100 := by omega
  have HN := Lib.hid hn
  have t1 : ¬ (n : Int) < 1 := by omega
  have t2 : ¬ (50 : Int) < n := by omega
  have t3 : ¬ (100 : Int) < m := by omega
  clear hout hn
  go_enter Try.func5, Try.ntmps5
  go_wp2_with fail
  refine (cat_new (n : Int) (Below.refl w.heap.size w)).mono ?_
  rintro e w1 (⟨-, -, g, rfl, hc⟩ | ⟨hn, -, -⟩)
  case inr => exact absurd ⟨by have := HN.out.1; omega, by have := HN.out.2.1; omega⟩ hn
  have C1 : Hid (CAt w w1 g ⟨List.replicate n z64, [], true, -1⟩) := hc
  clear hc
  go_wp2_with fail
  go_loopw [7] (fun k wr => ∃ i : Nat, i ≤ n ∧ k = .int .i64 i ∧ Hid (CAt w wr g ⟨List.replicate n z64, filled fs i, true, -1⟩)) (fun k _ => n - (intOf k).toNat)
  case atStart => exact ⟨0, Nat.zero_le _, rfl, C1.out⟩
  case round =>
    obtain ⟨i, hi, rfl, HR⟩ := hrel
    by_cases hlt : i < n
    case pos =>
      have tn : (i : Int) < (n : Int) := by omega
      have i0 : (0 : Int) ≤ (i : Int) := by omega
      obtain ⟨b, o, rfl, hbl, hc⟩ := HA.out.2 (by omega)
      have c0 : wr.cell? ⟨b, o + i, none⟩ = some (.int .u8 ((fs.getD i 0).toNat : Int)) := (HR.out.base.cell (p := ⟨b, o + i, none⟩) hbl).trans (hc i hlt)
      have ea : (⟨b, o, none⟩ : Addr).add i = ⟨b, o + i, none⟩ := add_mk b o i
      obtain ⟨y, hy⟩ : ∃ y, y = fs.getD i 0 := ⟨_, rfl⟩
      rw [← hy] at c0
      have HY : Hid (filled fs i ++ [(i, secB y 64)] = filled fs (i + 1)) := by show _ = _; rw [hy]; exact filled_snoc fs i
      have HLT := Lib.hid hlt
      clear hc hy hbl
      go_wp2_with fail
      refine (sec64_any y wr).mono ?_
      rintro e w5 ⟨v, rfl, ho, hb⟩
      have O5 := Lib.hid (And.intro ho hb)
      clear ho hb c0 ea
      go_wp2_with fail
      refine (cat_write_end (i : Int) HR.out O5.out.2 O5.out.1 (by rw [filled_len]; have := HLT.out; have := HN.out.2.1; omega) (by omega) (by rw [List.length_replicate]; have := HLT.out; omega) (secB_64 y)).mono ?_
      rintro e w6 ⟨rfl, hc⟩
      have C6 : Hid (CAt w w6 g ⟨List.replicate n z64, filled fs (i + 1), true, -1⟩) := by show CAt _ _ _ _; rw [← HY.out]; exact hc
      clear hc
      go_wp2_with fail
      go_roundw
      case rel => exact ⟨i + 1, by have := HLT.out; omega, by simp, C6⟩
      case measure => simp [intOf]; have := HLT.out; omega
    obtain rfl : n = i := by omega
    have tn : ¬ (n : Int) < (n : Int) := by omega
    clear hlt hi
    go_wp2_with fail
    refine (cat_flush_end HR.out (by rw [filled_len]; have := HN.out.2.1; omega)).mono ?_
    rintro e w7 ⟨rfl, hc⟩
    have C7 : Hid (∃ ws, ws.length ≤ 0 ∧ CAt w w7 g ⟨secsOf fs n, ws, true, -1⟩) := by
      refine ⟨[], Nat.le_refl _, ?_⟩
      rw [filled_lay] at hc
      exact hc
    clear hc HR
    go_wp2_with fail
    go_loopw [8] (fun k wr => ∃ i : Nat, i ≤ m ∧ k = .int .i64 i ∧ Hid (∃ ws, ws.length ≤ i ∧ CAt w wr g ⟨secsOf fs n, ws, true, -1⟩)) (fun k _ => m - (intOf k).toNat)
    case atStart => exact ⟨0, Nat.zero_le _, rfl, C7.out⟩
    case round =>
      obtain ⟨i, hi, rfl, HR⟩ := hrel
      by_cases hlt : i < m
      case pos =>
        have tm : (i : Int) < (m : Int) := by omega
        have i0 : (0 : Int) ≤ (i : Int) := by omega
        obtain ⟨b, o, x, rfl, hx, hok, hbl, hc⟩ := HL.out.at_ hlt
        have HB0 : Hid (Below w.heap.size w wr) := by obtain ⟨ws, -, h⟩ := HR.out; exact h.base
        have c1 : wr.cell? ⟨b, o + i * 5 + 1, none⟩ = some (.int .i64 x.at_) := (HB0.out.cell (p := ⟨b, o + i * 5 + 1, none⟩) hbl).trans (hc 1 _ rfl)
        have c2 : wr.cell? ⟨b, o + i * 5 + 2, none⟩ = some (.int .u8 (x.fill.toNat : Int)) := (HB0.out.cell (p := ⟨b, o + i * 5 + 2, none⟩) hbl).trans (hc 2 _ rfl)
        have ea : (⟨b, o, none⟩ : Addr).add (i * 5) = ⟨b, o + i * 5, none⟩ := add_mk b o (i * 5)
        have HLT := Lib.hid hlt
        have HBL := Lib.hid hbl
        have HC := Lib.hid hc
        clear hx hok hbl hc
        go_wp2_with fail
        refine wp_region_held_drew (S := fun W => W.cell? ⟨b, o + i * 5 + 1, none⟩ = some (.int .i64 x.at_) ∧ W.cell? ⟨b, o + i * 5 + 2, none⟩ = some (.int .u8 (x.fill.toNat : Int))) (by kernel_rfl) ⟨c1, c2⟩ (fun (hHeld : wr.drew.cell? ⟨b, o + i * 5 + 1, none⟩ = some (.int .i64 x.at_) ∧ wr.drew.cell? ⟨b, o + i * 5 + 2, none⟩ = some (.int .u8 (x.fill.toNat : Int))) => ?_)
        refine takeR (i := 0) (v := ?v0_1) rfl (by kernel_rfl) (by kernel_rfl) (by kernel_rfl) (fun _ _ _ h => h) (by rfl) ?hy0_1 (by assumption) ?rest0_1
        case hy0_1 => (intro W hSw; have q1 := hSw.1; have q2 := hSw.2; go_simp; try with_reducible rfl)
        try simp only [Act.put]
        try simp only [List.setIfInBounds_toArray]
        try simp only [List.set_cons_succ]
        try simp only [List.set_cons_zero]
        refine takeR (i := 1) (v := ?v1_2) rfl (by kernel_rfl) (by kernel_rfl) (by kernel_rfl) (fun _ _ _ h => h) (by rfl) ?hy1_2 (by assumption) ?rest1_2
        case hy1_2 => (intro W hSw; have q1 := hSw.1; have q2 := hSw.2; go_simp; try with_reducible rfl)
        try simp only [Act.put]
        try simp only [List.setIfInBounds_toArray]
        try simp only [List.set_cons_succ]
        try simp only [List.set_cons_zero]
        refine takeR (i := 2) (v := ?v2_3) rfl (by kernel_rfl) (by kernel_rfl) (by kernel_rfl) (fun _ _ _ h => h) (by rfl) ?hy2_3 (by assumption) ?rest2_3
        case hy2_3 => (intro W hSw; have q1 := hSw.1; have q2 := hSw.2; go_simp; try with_reducible rfl)
        try simp only [Act.put]
        try simp only [List.setIfInBounds_toArray]
        try simp only [List.set_cons_succ]
        try simp only [List.set_cons_zero]
        refine takeR (i := 3) (v := ?v3_4) rfl (by kernel_rfl) (by kernel_rfl) (by kernel_rfl) (fun _ _ _ h => h) (by rfl) ?hy3_4 (by assumption) ?rest3_4
        case hy3_4 => (intro W hSw; have q1 := hSw.1; have q2 := hSw.2; go_simp; try with_reducible rfl)
        try simp only [Act.put]
        try simp only [List.setIfInBounds_toArray]
        try simp only [List.set_cons_succ]
        try simp only [List.set_cons_zero]
        refine takeR (i := 4) (v := ?v4_5) rfl (by kernel_rfl) (by kernel_rfl) (by kernel_rfl) (fun _ _ _ h => h) (by rfl) ?hy4_5 (by assumption) ?rest4_5
        case hy4_5 => (intro W hSw; have q1 := hSw.1; have q2 := hSw.2; go_simp; try with_reducible rfl)
        try simp only [Act.put]
        try simp only [List.setIfInBounds_toArray]
        try simp only [List.set_cons_succ]
        try simp only [List.set_cons_zero]
        refine takeR (i := 5) (v := ?v5_6) rfl (by kernel_rfl) (by kernel_rfl) (by kernel_rfl) (fun _ _ _ h => h) (by rfl) ?hy5_6 (by assumption) ?rest5_6
        case hy5_6 => (intro W hSw; have q1 := hSw.1; have q2 := hSw.2; go_simp; try with_reducible rfl)
        try simp only [Act.put]
        try simp only [List.setIfInBounds_toArray]
        try simp only [List.set_cons_succ]
        try simp only [List.set_cons_zero]
        refine takeR (i := 6) (v := ?v6_7) rfl (by kernel_rfl) (by kernel_rfl) (by kernel_rfl) (fun _ _ _ h => h) (by rfl) ?hy6_7 (by assumption) ?rest6_7
        case hy6_7 => (intro W hSw; have q1 := hSw.1; have q2 := hSw.2; go_simp; try with_reducible rfl)
        try simp only [Act.put]
        try simp only [List.setIfInBounds_toArray]
        try simp only [List.set_cons_succ]
        try simp only [List.set_cons_zero]
        refine takeR (i := 7) (v := ?v7_8) rfl (by kernel_rfl) (by kernel_rfl) (by kernel_rfl) (fun _ _ _ h => h) (by rfl) ?hy7_8 (by assumption) ?rest7_8
        case hy7_8 => (intro W hSw; have q1 := hSw.1; have q2 := hSw.2; go_simp; try with_reducible rfl)
        try simp only [Act.put]
        try simp only [List.setIfInBounds_toArray]
        try simp only [List.set_cons_succ]
        try simp only [List.set_cons_zero]
        refine takeR (i := 8) (v := ?v8_9) rfl (by kernel_rfl) (by kernel_rfl) (by kernel_rfl) (fun _ _ _ h => h) (by rfl) ?hy8_9 (by assumption) ?rest8_9
        case hy8_9 => (intro W hSw; have q1 := hSw.1; have q2 := hSw.2; go_simp; try with_reducible rfl)
        try simp only [Act.put]
        try simp only [List.setIfInBounds_toArray]
        try simp only [List.set_cons_succ]
        try simp only [List.set_cons_zero]
        refine takeR (i := 9) (v := ?v9_10) rfl (by kernel_rfl) (by kernel_rfl) (by kernel_rfl) (fun _ _ _ h => h) (by rfl) ?hy9_10 (by assumption) ?rest9_10
        case hy9_10 => (intro W hSw; have q1 := hSw.1; have q2 := hSw.2; go_simp; try with_reducible rfl)
        try simp only [Act.put]
        try simp only [List.setIfInBounds_toArray]
        try simp only [List.set_cons_succ]
        try simp only [List.set_cons_zero]
        refine takeR (i := 10) (v := ?v10_11) rfl (by kernel_rfl) (by kernel_rfl) (by kernel_rfl) (fun _ _ _ h => h) (by rfl) ?hy10_11 (by assumption) ?rest10_11
        case hy10_11 => (intro W hSw; have q1 := hSw.1; have q2 := hSw.2; go_simp; try with_reducible rfl)
        try simp only [Act.put]
        try simp only [List.setIfInBounds_toArray]
        try simp only [List.set_cons_succ]
        try simp only [List.set_cons_zero]
        refine wpAnyH_ready (rs := [11]) (by kernel_rfl) (by simp) ?_
        refine AllReadyH.cons rfl (fun K hK => ?_) AllReadyH.nil
        rw [if_pos (by rfl)]
        go_simp
        have HRD : Hid (∃ ws, ws.length ≤ i ∧ CAt w wr.drew g ⟨secsOf fs n, ws, true, -1⟩) := by
          obtain ⟨ws, h1, h2⟩ := HR.out
          exact ⟨ws, h1, h2.below ((Below.refl _ _).drew)⟩
        refine (sec64_any x.fill wr.drew).mono ?_
        rintro e w5 ⟨v, rfl, ho, hb⟩
        have O5 := Lib.hid (And.intro ho hb)
        have hh : w5.cell? ⟨b, o + i * 5 + 1, none⟩ = some (.int .i64 x.at_) ∧ w5.cell? ⟨b, o + i * 5 + 2, none⟩ = some (.int .u8 (x.fill.toNat : Int)) := ⟨(hb.cell (p := ⟨b, o + i * 5 + 1, none⟩) (World.block_lt_of_cell? wr.drew ⟨b, o + i * 5 + 1, none⟩ hHeld.1)).trans hHeld.1, (hb.cell (p := ⟨b, o + i * 5 + 2, none⟩) (World.block_lt_of_cell? wr.drew ⟨b, o + i * 5 + 2, none⟩ hHeld.2)).trans hHeld.2⟩
        clear ho hb hHeld
        refine hK.out _ _ hh (fun hHeld => ?_)
        try simp only [Act.put]
        try simp only [List.setIfInBounds_toArray]
        try simp only [List.set_cons_succ]
        try simp only [List.set_cons_zero]
        clear hK K hh
        refine wpAnyH_ready (rs := [12]) (by kernel_rfl) (by simp) ?_
        refine AllReadyH.cons rfl (fun K hK => ?_) AllReadyH.nil
        rw [if_pos (by rfl)]
        go_simp
        refine (cat_write_some x.at_ i HRD.out (by have := HLT.out; have := HN.out.2.2; omega) O5.out.2 O5.out.1 (secB_64 x.fill)).mono ?_
        rintro e w6 ⟨r, rfl, hc⟩
        have C6 := Lib.hid hc
        have hh : w6.cell? ⟨b, o + i * 5 + 1, none⟩ = some (.int .i64 x.at_) ∧ w6.cell? ⟨b, o + i * 5 + 2, none⟩ = some (.int .u8 (x.fill.toNat : Int)) := by
          obtain ⟨ws, -, h⟩ := hc
          exact ⟨(h.base.cell (p := ⟨b, o + i * 5 + 1, none⟩) HBL.out).trans (HC.out 1 _ rfl), (h.base.cell (p := ⟨b, o + i * 5 + 2, none⟩) HBL.out).trans (HC.out 2 _ rfl)⟩
        clear hc hHeld c1 c2 ea
        refine hK.out _ _ hh (fun hHeld => ?_)
        try simp only [Act.put]
        try simp only [List.setIfInBounds_toArray]
        try simp only [List.set_cons_succ]
        try simp only [List.set_cons_zero]
        clear hK K hh hHeld
        refine wpAnyH_done (by kernel_rfl) ?_ _
        have tw := HN.out.2.2
        have tlt := HLT.out
        go_wp2_with fail
        go_roundw
        case rel => exact ⟨i + 1, by have := HLT.out; omega, by simp, C6⟩
        case measure => simp [intOf]; have := HLT.out; omega
      obtain rfl : m = i := by omega
      have tm : ¬ (m : Int) < (m : Int) := by omega
      clear hlt hi
      obtain ⟨ws, hw, hc⟩ := HR.out
      have C8 := Lib.hid (And.intro hw hc)
      clear hw hc HR C7
      go_wp2_with fail
      refine (cat_crash (ks := []) C8.out.2 (by show ws.length ≤ _; have := C8.out.1; have := HN.out.2.2; omega) rfl (fun h => absurd h (by decide))).mono ?_
      rintro e w9 ⟨rfl, hc⟩
      have C9 : Hid (CAt w w9 g ⟨secsOf fs n, [], false, -1⟩) := by
        show CAt _ _ _ _
        unfold Cd.crash at hc
        rw [tornW_nil] at hc
        exact hc
      clear hc C8
      go_wp2_with fail
      refine (cat_start C9.out).mono ?_
      rintro e w10 ⟨rfl, hc⟩
      have C10 : Hid (CAt w w10 g ⟨secsOf fs n, [], true, -1⟩) := hc
      clear hc C9
      go_wp2_with fail
      go_loopw [9] (fun k wr => ∃ i : Nat, i ≤ n ∧ k = .int .i64 i ∧ Hid (CAt w wr g ⟨secsOf fs n, [], true, -1⟩)) (fun k _ => n - (intOf k).toNat)
      case atStart => exact ⟨0, Nat.zero_le _, rfl, C10.out⟩
      case round =>
        obtain ⟨i, hi, rfl, HR⟩ := hrel
        by_cases hlt : i < n
        case pos =>
          have tn2 : (i : Int) < (n : Int) := by omega
          have i0 : (0 : Int) ≤ (i : Int) := by omega
          have HLT := Lib.hid hlt
          obtain ⟨b, o, rfl, hbl, hc⟩ := HA.out.2 (by omega)
          have HC := Lib.hid (And.intro hbl (hc i hlt))
          have ea : (⟨b, o, none⟩ : Addr).add i = ⟨b, o + i, none⟩ := add_mk b o i
          obtain ⟨y, hy⟩ : ∃ y, y = fs.getD i 0 := ⟨_, rfl⟩
          have HY := Lib.hid hy
          clear hc hbl hy tn
          go_wp2_with fail
          refine (cat_read_end i HR.out (by simp) (by rw [secsOf_len]; have := HLT.out; omega)).mono ?_
          rintro e w11 ⟨hc, -, v, l2, hl, rfl, ho⟩
          obtain rfl : secB y 64 = l2 := by
            rw [layW_nil, secsOf_at fs n i HLT.out, ← HY.out] at hl
            injection hl
          obtain ⟨A1, c1, rfl, -, -, hr⟩ := ho.rd
          rw [secB_64] at hr ⊢
          have c0 : w11.cell? ⟨b, o + i, none⟩ = some (.int .u8 (y.toNat : Int)) := by rw [HY.out]; exact (hc.base.cell (p := ⟨b, o + i, none⟩) HC.out.1).trans HC.out.2
          have C11 := Lib.hid hc
          have HR11 := Lib.hid hr
          clear hc hl ho hr
          go_wp2_with fail
          refine (sec64_any y w11).mono ?_
          rintro e w12 ⟨v, rfl, ho, hb⟩
          obtain ⟨A2, c2, rfl, -, -, hr⟩ := ho.rd
          rw [secB_64] at hr ⊢
          have C12 := Lib.hid (C11.out.below hb)
          have HR12 := Lib.hid (And.intro hr hb)
          clear ho hr hb c0
          go_wp2_with fail
          refine (same_true A1 A2 64 c1 64 c2 w11.heap.size w12.heap.size (secB y 64) w12 (HR11.out.below HR12.out.2) HR12.out.1).mono ?_
          rintro e w13 ⟨rfl, rfl⟩
          have tlt := HLT.out
          have tn3 := HN.out.2.1
          go_wp2_with fail
          go_roundw
          case rel => exact ⟨i + 1, by have := HLT.out; omega, by simp, C12⟩
          case measure => simp [intOf]; have := HLT.out; omega
        obtain rfl : n = i := by omega
        clear hlt hi
        go_wp2_with fail
        refine (cat_waiting HR.out).mono ?_
        rintro e w14 ⟨rfl, rfl⟩
        go_wp2_with fail
        refine (heads13_any wr).mono ?_
        rintro e w15 ⟨rfl, hb⟩
        have B15 : Hid (Below w.heap.size w w15) := HR.out.base.trans (hb.mono HR.out.size)
        clear hb
        go_wp2_with fail
        go_ret
        exact ⟨rfl, B15.out⟩
end Go.Proofs.Ytchcimckffonjaa
