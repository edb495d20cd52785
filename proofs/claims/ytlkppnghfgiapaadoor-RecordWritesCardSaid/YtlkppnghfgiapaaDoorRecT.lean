/- The code of layer 14: read. (Made by gen/RecT.py.) -/
import Derived.Test.YtlkppnghfgiapaaDoorRecS
import Derived.Test.YtlkppnghfgiapaaDoorRecL
import Derived.Test.YtlkppnghfgiapaaDoorNumG
import Derived.Test.YtlkppnghfgiapaaDoorBEq
import Derived.Deep.Heap
namespace Go.Proofs.YtlkppnghfgiapaaDoor
open Go.RowKit Go.Extern.Stop Go.Stop Go.Extern

/-- What read answers. -/
def ReaR (X : Snt14) (salt : Nat) (l : List UInt8) (w : World) (e : Ending) (w' : World) : Prop := Below w.heap.size w w' ∧ ∃ A n c E, e = .returned (.tuple #[recV (nextR salt l).1.typ A n c, .int .i64 ((nextR salt l).2.1 : Int), E]) ∧ Ob w' w.heap.size 5 (.slice A n c) (nextR salt l).1.dat ∧ ((nextR salt l).2.2 = 0 ∧ E = .nilIface ∨ (nextR salt l).2.2 = 30 ∧ (∃ s, E = flt14 s X.s) ∨ (nextR salt l).2.2 = 140 ∧ ∃ s, E = flt14 s X.r)
theorem reaR_no {X : Snt14} {salt : Nat} {l : List UInt8} {w w' : World} {e : Ending} {z : Int} {E : Value} (h : nextR salt l = (.zero, 0, z)) (hb : Below w.heap.size w w') (he : e = .returned (.tuple #[.agg #[.int .i64 0, .slice none 0 0], .int .i64 0, E])) (hE : z = 30 ∧ (∃ s, E = flt14 s X.s) ∨ z = 140 ∧ ∃ s, E = flt14 s X.r) : ReaR X salt l w e w' := by
  refine ⟨hb, none, 0, 0, E, ?_, ?_, ?_⟩
  · rw [h]; exact he
  · rw [h]; exact Ob.nil_ _ _ _
  · rw [h]; exact .inr hE
theorem Lds14.lt {X : Snt14} {w : World} (h : Lds14 X w) : 1 < w.heap.size := World.block_lt_of_cell? w _ h.cs
/-- A record's bytes without its sum are those that stand there. -/
theorem body_taken {l : List UInt8} (h : lenR l + 3 ≤ l.length) : bodyR (takenR l) = l.take (lenR l + 3) := by
  have hl : ((l.drop 3).take (lenR l)).length = lenR l := by rw [List.length_take, List.length_drop]; omega
  unfold bodyR takenR
  rw [hl]
  have h2 : be (lenR l) 2 = l.take 2 := be_beNat 2 (l.take 2) (by rw [List.length_take]; omega) (by decide)
  rw [h2]
  match l, h with
  | [], h => simp at h
  | [x], h => simp at h
  | [x, y], h => simp at h
  | x :: y :: z :: r, h =>
    rw [show lenR (x :: y :: z :: r) + 3 = (lenR (x :: y :: z :: r) + 2) + 1 by omega]
    show [x, y] ++ UInt8.ofNat ((z.toNat : Int).toNat) :: r.take _ = x :: (y :: z :: r).take ((lenR (x :: y :: z :: r) + 1) + 1)
    rw [Int.toNat_natCast, UInt8.ofNat_toNat]
    rfl
/-- When a record is one: by its sum alone. -/
theorem taken_sum {salt : Nat} {l : List UInt8} (h : lenR l + 7 ≤ l.length) : frameR salt (takenR l) = l.take (lenR l + 7) ↔ crcBytes 2 (be salt 8 ++ l.take (lenR l + 3)) = (l.drop (lenR l + 3)).take 4 := by
  have hb := body_taken (l := l) (by omega)
  have e : l.take (lenR l + 7) = l.take (lenR l + 3) ++ (l.drop (lenR l + 3)).take 4 := by
    rw [show lenR l + 7 = (lenR l + 3) + 4 by omega, List.take_add]
  unfold frameR sumR
  rw [hb, e]
  exact ⟨fun h => List.append_cancel_left h, fun h => by rw [h]⟩

set_option maxRecDepth 100000 in
set_option maxHeartbeats 8000000 in
/-- Fewer than three bytes. -/
theorem cread_few (X : Snt14) (salt : Nat) (A : Option Addr) (n c B : Nat) (l : List UInt8) (w : World) (hA : Lds14 X w) (h : Rd w B A n l) (h3 : n < 3) :
    Calls Tryd.prog 26 #[.int .u64 (salt : Int), .slice A n c] w (ReaR X salt l w) := by
  have hb1 : Below w.heap.size w (w.alloc (.cells #[.int .i64 0, .slice none 0 0] 25)) := (Below.refl _ _).alloc (Nat.le_refl _) _
  have HB := Lib.hid hb1
  obtain ⟨⟨z0, z1⟩, f0, f1⟩ := row2 (heap_alloc_new w (.cells #[.int .i64 0, .slice none 0 0] 25))
  have HX : Hid (nextR salt l = (.zero, 0, 30)) := by
    show _ = _
    unfold nextR
    rw [if_pos (by rw [h.1]; exact h3)]
  have h3i : (n : Int) < 3 := by omega
  have cs := (hA.below hb1 (Nat.le_refl _)).cs
  unfold snt14 at cs
  have h1 := hA.lt
  have hne : ¬ w.heap.size = 1 := by omega
  clear h h3 hA hb1 h1
  go_enter Tryd.func26, Tryd.ntmps26
  go_wp2_with fail
  go_region
  go_wp2_with fail
  exact bodyPost_ret (v := .tuple #[.agg #[.int .i64 0, .slice none 0 0], .int .i64 0, (.iface 61 (.agg #[.string ⟨#[105, 116, 115, 32, 104, 101, 97, 100]⟩, .iface 85 (.pointer (some X.s))]))]) (by simp [results, Tryd.results26, go_sem, z0, z1]) rfl (reaR_no HX.out (by first | exact HB.out | exact below_put2 HB.out (Nat.le_refl _) | exact HB.out.drew | exact (below_put2 HB.out (Nat.le_refl _)).drew) rfl (.inl ⟨rfl, _, rfl⟩))

set_option maxRecDepth 100000 in
set_option maxHeartbeats 16000000 in
/-- Three bytes and more. -/
theorem cread_many (X : Snt14) (salt : Nat) (A : Option Addr) (n c B : Nat) (l : List UInt8) (w : World) (hA : Lds14 X w) (hsl : salt < 18446744073709551616) (h : Rd w B A n l) (hB : B ≤ w.heap.size) (hn : n ≤ 140737488355328) (hc : n ≤ c) (hc2 : c ≤ 9223372036854775807) (h3 : ¬ n < 3) :
    Calls Tryd.prog 26 #[.int .u64 (salt : Int), .slice A n c] w (ReaR X salt l w) := by
  obtain ⟨w1, hw1⟩ : ∃ w1, w1 = w.alloc (.cells #[.int .i64 0, .slice none 0 0] 25) := ⟨_, rfl⟩
  have hb1 : Below w.heap.size w w1 := by rw [hw1]; exact (Below.refl _ _).alloc (Nat.le_refl _) _
  have HB := Lib.hid hb1
  have HZ : Hid (w1.heap[w.heap.size]? = some (.cells #[.int .i64 0, .slice none 0 0] 25 (0, 0))) := by show _ = _; rw [hw1]; exact heap_alloc_new w _
  have HG : Hid (w.heap.size < w1.heap.size) := (Array.getElem?_eq_some_iff.1 HZ.out).1
  have HW := Lib.hid hw1
  have hA1 := hA.below hb1 (Nat.le_refl _)
  have HL := Lib.hid hA1
  have hlt := hA.lt
  have hne1 : ¬ w.heap.size = 1 := by omega
  have hne0 : ¬ w.heap.size = 0 := by omega
  have h1 : Rd w1 B A n l := h.below (hb1.mono hB)
  have hB1 : B ≤ w1.heap.size := Nat.le_trans hB hb1.size
  obtain ⟨b, o, rfl, hb, hcell⟩ := h1.2 (by omega)
  have q2 := hcell 2 (by omega)
  obtain ⟨A2, c2, cut2, hc22, hc23, hr2⟩ := cut_h (P := Tryd.prog) 23 5 Tryd.underlying23 size_u8 c h1 2 2 rfl (by omega) hc
  have CG := Lib.hid (get_any A2 2 c2 (l.take 2) w1 B hr2 (by decide) (by omega) (by omega))
  have hlR : beNat ((l.take 2).drop (2 - 8)) = lenR l := rfl
  rw [hlR] at CG
  have hll : l.length = n := h.1
  have h3i : ¬ (n : Int) < 3 := by omega
  have h2i : (2 : Int) < (n : Int) := by omega
  obtain ⟨M, hM⟩ : ∃ M, M = lenR l := ⟨_, rfl⟩
  obtain ⟨x, hX⟩ : ∃ x, x = l.getD 2 0 := ⟨_, rfl⟩
  have hM6 : M < 65536 := by rw [hM]; exact lenR_lt l
  rw [← hM] at CG
  rw [← hX] at q2
  have wM : IntKind.i64.wrap (M : Int) = (M : Int) := by rw [IntKind.wrap_i64]; omega
  have wX : IntKind.i64.wrap (x.toNat : Int) = (x.toNat : Int) := by have := x.toNat_lt; rw [IntKind.wrap_i64]; omega
  have CC := Lib.hid (check14_any X (x.toNat : Int) M w1 hA1)
  have q1 := fun (W : World) (u : TypeId) (y : Value) => run_neq_iface_nil (P := Tryd.prog) (w := W) 49 (by kernel_rfl) u y
  have q0 := fun (W : World) => run_neq_nil_nil_at (P := Tryd.prog) (w := W) 49 (by kernel_rfl)
  have hxi : x = 0 ↔ ¬ (1 : Int) ≤ (x.toNat : Int) := by
    rw [show x = 0 ↔ x.toNat = 0 from ⟨fun e => by rw [e]; rfl, fun e => UInt8.toNat_inj.1 e⟩]
    omega
  have hx2 := x.toNat_lt
  unfold ChkR at CC
  by_cases hmay : mayR (x.toNat : Int) M
  case neg =>
    have HX : Hid (nextR salt l = (.zero, 0, 140)) := by
      show _ = _
      unfold nextR
      rw [if_neg (by omega), if_pos]
      by_cases h0 : x = 0
      · exact .inl (by rw [← hX]; exact h0)
      · refine .inr ?_
        rw [← hM]
        rcases Nat.lt_or_ge 8192 M with hh | hh
        · exact hh
        · exact absurd ⟨by rcases Int.lt_or_le (x.toNat : Int) 1 with g | g; exact absurd (hxi.2 (by omega)) h0; exact g, by omega, hh⟩ hmay
    have HM := Lib.hid hmay
    clear h h1 h3 hb1 hw1 hB hB1 hcell hr2 hlR hll hX hM hn hc hc2 hb hmay hxi hx2 hM6 hA hA1 hsl hlt hc22 hc23 hne0 hne1
    go_enter Tryd.func26, Tryd.ntmps26
    go_wp2_with fail
    rw [← HW.out]
    refine CG.out.mono ?_
    rintro e u1 ⟨rfl, rfl⟩
    go_wp2_with fail
    refine CC.out.mono ?_
    rintro e w2 ⟨hb2, E, rfl, -, hE⟩
    obtain ⟨s, rfl⟩ := hE HM.out
    have B2 := Lib.hid (HB.out.trans (hb2.mono HB.out.size))
    obtain ⟨⟨z0, z1⟩, f0, f1⟩ := row2 ((hb2.block _ HG.out).trans HZ.out)
    clear hb2 hE q2 cut2
    unfold flt14 snt14 at *
    go_wp2_with fail
    exact bodyPost_ret (v := .tuple #[.agg #[.int .i64 0, .slice none 0 0], .int .i64 0, (.iface 61 (.agg #[.string s, .iface 85 (.pointer (some X.r))]))]) (by simp [results, Tryd.results26, go_sem, z0, z1]) rfl (reaR_no HX.out (by first | exact B2.out | exact below_put2 B2.out (Nat.le_refl _) | exact B2.out.drew | exact (below_put2 B2.out (Nat.le_refl _)).drew) rfl (.inr ⟨rfl, _, rfl⟩))
  obtain ⟨hm1, -, hm3⟩ := hmay
  have HMY : Hid (mayR (x.toNat : Int) M) := ⟨hm1, by omega, hm3⟩
  have h0 : ¬ l.getD 2 0 = 0 := by rw [← hX, hxi]; omega
  have h8 : ¬ 8192 < lenR l := by rw [← hM]; omega
  have CZ := Lib.hid (fun W => sizeOf14_any M W (by omega))
  have hcell2 := hcell 2 (by omega)
  rw [← hX] at hcell2
  by_cases hs : n < M + 7
  case pos =>
    have HX : Hid (nextR salt l = (.zero, 0, 30)) := by
      show _ = _
      unfold nextR
      rw [if_neg (by omega), if_neg (by rintro (h | h); exact h0 h; exact h8 h), if_pos (by omega)]
    have hsi : (n : Int) < (M : Int) + 7 := by omega
    clear h h1 h3 hb1 hw1 hB hB1 hcell hr2 hlR hll hX hM hn hc hc2 hb hxi hx2 hM6 hA hA1 hsl hlt hc22 hc23 hm1 hm3 h0 h8 hs
    go_enter Tryd.func26, Tryd.ntmps26
    go_wp2_with fail
    rw [← HW.out]
    refine CG.out.mono ?_
    rintro e u1 ⟨rfl, rfl⟩
    go_wp2_with fail
    refine CC.out.mono ?_
    rintro e w2 ⟨hb2, E, rfl, hE, -⟩
    obtain rfl := hE HMY.out
    have B2 := Lib.hid (HB.out.trans (hb2.mono HB.out.size))
    obtain ⟨⟨z0, z1⟩, f0, f1⟩ := row2 ((hb2.block _ HG.out).trans HZ.out)
    have cs := (HL.out.below hb2 (Nat.le_refl _)).cs
    unfold snt14 at cs
    clear hb2 hE q2 cut2 hcell2
    go_wp2_with (first
      | (go_at_call 20; refine (CZ.out _).mono ?_; rintro e wz ⟨rfl, rfl⟩)
      | fail)
    go_region
    go_wp2_with fail
    exact bodyPost_ret (v := .tuple #[.agg #[.int .i64 0, .slice none 0 0], .int .i64 0, (.iface 61 (.agg #[.string ⟨#[105, 116, 115, 32, 100, 97, 116, 97]⟩, .iface 85 (.pointer (some X.s))]))]) (by simp [results, Tryd.results26, go_sem, z0, z1]) rfl (reaR_no HX.out (by first | exact B2.out | exact below_put2 B2.out (Nat.le_refl _) | exact B2.out.drew | exact (below_put2 B2.out (Nat.le_refl _)).drew) rfl (.inl ⟨rfl, _, rfl⟩))
  have hsi : ¬ (n : Int) < (M : Int) + 7 := by omega
  have w74 : IntKind.i64.wrap ((M : Int) + 7 - 4) = (M : Int) + 3 := by rw [IntKind.wrap_i64]; omega
  have w3 : IntKind.i64.wrap ((M : Int) + 3) = (M : Int) + 3 := by rw [IntKind.wrap_i64]; omega
  obtain ⟨A5, c5, cut5, hc5, hc52, hr5⟩ := cut_h (P := Tryd.prog) 23 5 Tryd.underlying23 size_u8 c h1 ((M : Int) + 3) (M + 3) (by omega) (by omega) hc
  obtain ⟨A6, c6, cut6, hc6, -, hr6⟩ := cut_lh14 (P := Tryd.prog) 23 5 Tryd.underlying23 size_u8 c h1 ((M : Int) + 3) ((M : Int) + 7) (M + 3) (M + 7) (by omega) (by omega) (by omega) (by omega) hc (by omega)
  rw [show M + 7 - (M + 3) = 4 by omega] at cut6 hr6
  obtain ⟨A7, c7, cut7, -, -, hr7⟩ := cut_l (P := Tryd.prog) 23 5 Tryd.underlying23 size_u8 c5 hr5 3 3 rfl (by omega) hc5
  rw [show M + 3 - 3 = M by omega] at cut7 hr7
  obtain ⟨dd, hdd⟩ : ∃ dd, dd = (l.take (M + 3)).drop 3 := ⟨_, rfl⟩
  obtain ⟨l5, hl5⟩ : ∃ l5, l5 = l.take (M + 3) := ⟨_, rfl⟩
  obtain ⟨l6, hl6⟩ : ∃ l6, l6 = (l.drop (M + 3)).take 4 := ⟨_, rfl⟩
  rw [← hdd] at hr7
  rw [← hl5] at hr5
  rw [← hl6] at hr6
  have R5 : Hid (∀ W, Below w1.heap.size w1 W → Rd W B A5 (M + 3) l5) := fun W hW => hr5.below (hW.mono hB1)
  have R6 : Hid (∀ W, Below w1.heap.size w1 W → Rd W B A6 4 l6) := fun W hW => hr6.below (hW.mono hB1)
  have R7 : Hid (∀ W, Below w1.heap.size w1 W → Rd W B A7 M dd) := fun W hW => hr7.below (hW.mono hB1)
  have HBB := Lib.hid hB1
  have HNM : Hid (M ≤ 8192) := by show _ ≤ _; omega
  have HSL := Lib.hid hsl
  have HTS := taken_sum (salt := salt) (l := l) (by omega)
  rw [← hM, ← hl5, ← hl6] at HTS
  have etk : takenR l = ⟨(x.toNat : Int), dd⟩ := by
    unfold takenR
    rw [← hX, ← hM, hdd, List.drop_take, show M + 3 - 3 = M by omega]
  have HNX : Hid (nextR salt l = if crcBytes 2 (be salt 8 ++ l5) = l6 then (⟨(x.toNat : Int), dd⟩, M + 7, 0) else (.zero, 0, 140)) := by
    show _ = _
    unfold nextR
    rw [if_neg (by omega), if_neg (by rintro (h | h); exact h0 h; exact h8 h), if_neg (by omega), ← hM, etk]
    rw [etk] at HTS
    by_cases hh : crcBytes 2 (be salt 8 ++ l5) = l6
    · rw [if_pos (HTS.2 hh), if_pos hh]
    · rw [if_neg (fun h => hh (HTS.1 h)), if_neg hh]
  obtain ⟨S5, hS5⟩ : ∃ S5, S5 = crcBytes 2 (be salt 8 ++ l5) := ⟨_, rfl⟩
  have HS5 := Lib.hid hS5
  rw [← hS5] at HNX
  clear h h1 h3 hb1 hw1 hB hB1 hcell hr2 hr5 hr6 hr7 hlR hll hX hM hn hc hc2 hb hxi hx2 hM6 hA hA1 hsl hlt hc22 hc23 hm1 hm3 h0 h8 hs hc5 hc52 hc6 hdd hl5 hl6 etk HTS hS5
  go_enter Tryd.func26, Tryd.ntmps26
  go_wp2_with fail
  rw [← HW.out]
  refine CG.out.mono ?_
  rintro e u1 ⟨rfl, rfl⟩
  go_wp2_with fail
  refine CC.out.mono ?_
  rintro e w2 ⟨hb2, E, rfl, hE, -⟩
  obtain rfl := hE HMY.out
  have D2 := Lib.hid hb2
  clear hb2 hE q2 cut2 hcell2
  go_upto_region 12 with (first
    | (go_at_call 20; refine (CZ.out _).mono ?_; rintro e wz ⟨rfl, rfl⟩)
    | fail)
  refine wp_region_held_drew (S := fun W => Below w1.heap.size w1 W) (by kernel_rfl) D2.out.drew (fun hHeld => ?_)
  refine takeR (i := 0) (v := ?v0_1) rfl (by kernel_rfl) (by kernel_rfl) (by kernel_rfl) (fun _ _ _ h => h) (by rfl) ?hy0_1 (by assumption) ?rest0_1
  case hy0_1 => (intro W hSw; go_simp; try with_reducible rfl)
  try simp only [Act.put]
  try simp only [List.setIfInBounds_toArray]
  try simp only [List.set_cons_succ]
  try simp only [List.set_cons_zero]
  refine takeR (i := 1) (v := ?v1_2) rfl (by kernel_rfl) (by kernel_rfl) (by kernel_rfl) (fun _ _ _ h => h) (by rfl) ?hy1_2 (by assumption) ?rest1_2
  case hy1_2 => (intro W hSw; go_simp; try with_reducible rfl)
  try simp only [Act.put]
  try simp only [List.setIfInBounds_toArray]
  try simp only [List.set_cons_succ]
  try simp only [List.set_cons_zero]
  refine takeR (i := 3) (v := ?v3_3) rfl (by kernel_rfl) (by kernel_rfl) (by kernel_rfl) (fun _ _ _ h => h) (by rfl) ?hy3_3 (by assumption) ?rest3_3
  case hy3_3 => (intro W hSw; go_simp; try with_reducible rfl)
  try simp only [Act.put]
  try simp only [List.setIfInBounds_toArray]
  try simp only [List.set_cons_succ]
  try simp only [List.set_cons_zero]
  refine takeR (i := 4) (v := ?v4_4) rfl (by kernel_rfl) (by kernel_rfl) (by kernel_rfl) (fun _ _ _ h => h) (by rfl) ?hy4_4 (by assumption) ?rest4_4
  case hy4_4 => (intro W hSw; go_simp; try with_reducible rfl)
  try simp only [Act.put]
  try simp only [List.setIfInBounds_toArray]
  try simp only [List.set_cons_succ]
  try simp only [List.set_cons_zero]
  refine takeR (i := 5) (v := ?v5_5) rfl (by kernel_rfl) (by kernel_rfl) (by kernel_rfl) (fun _ _ _ h => h) (by rfl) ?hy5_5 (by assumption) ?rest5_5
  case hy5_5 => (intro W hSw; go_simp; try with_reducible rfl)
  try simp only [Act.put]
  try simp only [List.setIfInBounds_toArray]
  try simp only [List.set_cons_succ]
  try simp only [List.set_cons_zero]
  refine takeR (i := 6) (v := ?v6_6) rfl (by kernel_rfl) (by kernel_rfl) (by kernel_rfl) (fun _ _ _ h => h) (by rfl) ?hy6_6 (by assumption) ?rest6_6
  case hy6_6 => (intro W hSw; go_simp; try with_reducible rfl)
  try simp only [Act.put]
  try simp only [List.setIfInBounds_toArray]
  try simp only [List.set_cons_succ]
  try simp only [List.set_cons_zero]
  refine takeR (i := 7) (v := ?v7_7) rfl (by kernel_rfl) (by kernel_rfl) (by kernel_rfl) (fun _ _ _ h => h) (by rfl) ?hy7_7 (by assumption) ?rest7_7
  case hy7_7 => (intro W hSw; go_simp; try with_reducible rfl)
  try simp only [Act.put]
  try simp only [List.setIfInBounds_toArray]
  try simp only [List.set_cons_succ]
  try simp only [List.set_cons_zero]
  have BT : Hid (Below w1.heap.size w1 w2.drew) := D2.out.drew
  clear hHeld
  obtain ⟨wc, hwc⟩ : ∃ wc, wc = w2.drew := ⟨_, rfl⟩
  rw [← hwc] at BT
  rw [← hwc]
  clear hwc
  refine wpAnyH_ready (rs := [2]) (by kernel_rfl) (by simp) ?_
  refine AllReadyH.cons rfl (fun K hK => ?_) AllReadyH.nil
  rw [if_pos (by rfl)]
  go_simp
  refine (csum14_any salt A5 (M + 3) c5 B l5 wc HSL.out (R5.out wc BT.out) (Nat.le_trans HBB.out BT.out.size) (by have := HNM.out; omega)).mono ?_
  rintro e w3 ⟨A3, n3, c3, rfl, hr3, hc3, hb3⟩
  rw [← HS5.out] at hr3
  have R3 := Lib.hid hr3
  have B3 : Hid (Below w1.heap.size w1 w3) := BT.out.trans (hb3.mono BT.out.size)
  clear hr3 hc3 hb3
  refine hK.out _ _ B3.out (fun hHeld => ?_)
  try simp only [Act.put]
  try simp only [List.setIfInBounds_toArray]
  try simp only [List.set_cons_succ]
  try simp only [List.set_cons_zero]
  clear hK K hHeld
  refine wpAnyH_ready (rs := [8]) (by kernel_rfl) (by simp) ?_
  refine AllReadyH.cons rfl (fun K hK => ?_) AllReadyH.nil
  rw [if_pos (by rfl)]
  go_simp
  refine (bequal_any A3 A6 n3 c3 4 c6 w3.heap.size S5 l6 w3 R3.out ((R6.out w3 B3.out).more (Nat.le_trans HBB.out B3.out.size))).mono ?_
  rintro e w4 ⟨rfl, rfl⟩
  refine hK.out _ _ B3.out (fun hHeld => ?_)
  try simp only [Act.put]
  try simp only [List.setIfInBounds_toArray]
  try simp only [List.set_cons_succ]
  try simp only [List.set_cons_zero]
  clear hK K hHeld BT
  obtain ⟨be5, hbe5⟩ : ∃ be5, be5 = (S5 == l6) := ⟨_, rfl⟩
  rw [← hbe5]
  have HBE := Lib.hid hbe5
  clear hbe5
  refine takeR (i := 9) (v := ?v9_8) rfl (by kernel_rfl) (by kernel_rfl) (by kernel_rfl) (fun _ _ _ h => h) (by rfl) ?hy9_8 (by assumption) ?rest9_8
  case hy9_8 => (intro W hSw; go_simp; try with_reducible rfl)
  try simp only [Act.put]
  try simp only [List.setIfInBounds_toArray]
  try simp only [List.set_cons_succ]
  try simp only [List.set_cons_zero]
  refine wpAnyH_done (by kernel_rfl) ?_ _
  have D3 := Lib.hid (HB.out.trans (B3.out.mono HB.out.size))
  obtain ⟨⟨z0, z1⟩, f0, f1⟩ := row2 ((B3.out.block _ HG.out).trans HZ.out)
  have cr := (HL.out.below B3.out (Nat.le_refl _)).cr
  unfold snt14 at cr
  cases be5 with
  | false =>
    have HX : Hid (nextR salt l = (.zero, 0, 140)) := HNX.out.trans (if_neg (fun e => by have := HBE.out; rw [e, beq_self_eq_true] at this; cases this))
    go_wp2_with fail
    go_region
    go_wp2_with fail
    exact bodyPost_ret (v := .tuple #[.agg #[.int .i64 0, .slice none 0 0], .int .i64 0, (.iface 61 (.agg #[.string ⟨#[105, 116, 115, 32, 115, 117, 109]⟩, .iface 85 (.pointer (some X.r))]))]) (by simp [results, Tryd.results26, go_sem, z0, z1]) rfl (reaR_no HX.out (by first | exact D3.out | exact below_put2 D3.out (Nat.le_refl _) | exact D3.out.drew | exact (below_put2 D3.out (Nat.le_refl _)).drew) rfl (.inr ⟨rfl, _, rfl⟩))
  | true =>
    have HX : Hid (nextR salt l = (⟨(x.toNat : Int), dd⟩, M + 7, 0)) := HNX.out.trans (if_pos (beq_iff_eq.1 HBE.out.symm))
    have CL := Lib.hid (bclone14_any A7 M c7 B dd w3 (Nat.le_trans HBB.out B3.out.size) (R7.out w3 B3.out) (by have := HNM.out; omega))
    have HR3 := Lib.hid ((B3.out.block _ HG.out).trans HZ.out)
    have HG3 : Hid (w.heap.size < w3.heap.size) := Nat.lt_of_lt_of_le HG.out B3.out.size
    clear z0 z1 f0 f1 cr
    go_wp2_with (first
      | (go_at_call 34; refine CL.out.mono ?_; rintro e w5 ⟨v5, rfl, ho5, hb5⟩; obtain ⟨A8, c8, hv8, -, -, hr8⟩ := ho5.rd; rw [(R7.out w3 B3.out).1] at hv8; subst hv8; have O5 := Lib.hid ho5; have B5 := Lib.hid (D3.out.trans (hb5.mono D3.out.size)); obtain ⟨⟨z0, z1⟩, f0, f1⟩ := row2 ((hb5.block _ HG3.out).trans HR3.out); clear ho5 hb5 hr8)
      | fail)
    exact bodyPost_ret (v := .tuple #[.agg #[.int .i64 (x.toNat : Int), .slice A8 M c8], .int .i64 ((M : Int) + 7), .nilIface]) (by simp [results, Tryd.results26, go_sem, z0, z1]) rfl ⟨below_put2 B5.out (Nat.le_refl _), A8, M, c8, .nilIface, by rw [HX.out]; rfl, by rw [HX.out]; exact (O5.out.far14 (g := w.heap.size) (fun e => by have := (World.ownsRow.lt O5.out w.heap.size e).1; have := HG3.out; omega) (fun j hj => (Go.Deep.blk_setCell_other _ _ _ j hj).trans (Go.Deep.blk_setCell_other _ _ _ j hj))).wide (Nat.le_of_lt HG3.out), by rw [HX.out]; exact .inl ⟨rfl, rfl⟩⟩
end Go.Proofs.YtlkppnghfgiapaaDoor
