/- The code of layer 14: read. (Made by gen/RecT.py.) -/
import Derived.Test.YtahgaogmcffglaaDoorJRecL
import Derived.Test.YtahgaogmcffglaaDoorJRecS
import Derived.Test.YtahgaogmcffglaaDoorJWlM
import Derived.Deep.Heap
namespace Go.Proofs.YtahgaogmcffglaaDoor
open Go.RowKit Go.Extern.Stop Go.Stop Go.Extern

/-- What read answers. -/
def ReaR (X : Snt14) (salt : Nat) (l : List UInt8) (w : World) (e : Ending) (w' : World) : Prop := Below w.heap.size w w' ∧ ∃ A n c E, e = .returned (.tuple #[recV (nextR salt l).1.typ A n c, .int .i64 ((nextR salt l).2.1 : Int), E]) ∧ Ob w' w.heap.size 5 (.slice A n c) (nextR salt l).1.dat ∧ ((nextR salt l).2.2 = 0 ∧ E = .nilIface ∨ (nextR salt l).2.2 = 30 ∧ (∃ s, E = flt14 s X.s) ∨ (nextR salt l).2.2 = 140 ∧ ∃ s, E = flt14 s X.r)
theorem reaR_no {X : Snt14} {salt : Nat} {l : List UInt8} {w w' : World} {e : Ending} {z : Int} {E : Value} (h : nextR salt l = (.zero, 0, z)) (hb : Below w.heap.size w w') (he : e = .returned (.tuple #[.agg #[.int .i64 0, .slice none 0 0], .int .i64 0, E])) (hE : z = 30 ∧ (∃ s, E = flt14 s X.s) ∨ z = 140 ∧ ∃ s, E = flt14 s X.r) : ReaR X salt l w e w' := by
  refine ⟨hb, none, 0, 0, E, ?_, ?_, ?_⟩
  · rw [h]; exact he
  · rw [h]; exact Ob.nil_ _ _ _
  · rw [h]; exact .inr hE
theorem Lds14.lt {X : Snt14} {w : World} (h : Lds14 X w) : 1 < w.heap.size := World.block_lt_of_cell? w _ h.cs
/-- A record's bytes without its sum are those that stand there. -/
theorem body_taken {l : List UInt8} (h : lenR l + 3 ≤ l.length) : bodyR (takenR l) = l.take (lenR l + 3) := by
  have hl : ((l.drop 3).take (lenR l)).length = lenR l := by rw [List.length_take, List.length_drop]; omega
  unfold bodyR takenR
  rw [hl]
  have h2 : be (lenR l) 2 = l.take 2 := be_beNat 2 (l.take 2) (by rw [List.length_take]; omega) (by decide)
  rw [h2]
  match l, h with
  | [], h => simp at h
  | [x], h => simp at h
  | [x, y], h => simp at h
  | x :: y :: z :: r, h =>
    rw [show lenR (x :: y :: z :: r) + 3 = (lenR (x :: y :: z :: r) + 2) + 1 by omega]
    show [x, y] ++ UInt8.ofNat ((z.toNat : Int).toNat) :: r.take _ = x :: (y :: z :: r).take ((lenR (x :: y :: z :: r) + 1) + 1)
    rw [Int.toNat_natCast, UInt8.ofNat_toNat]
    rfl
/-- When a record is one: by its sum alone. -/
theorem taken_sum {salt : Nat} {l : List UInt8} (h : lenR l + 7 ≤ l.length) : frameR salt (takenR l) = l.take (lenR l + 7) ↔ crcBytes 2 (be salt 8 ++ l.take (lenR l + 3)) = (l.drop (lenR l + 3)).take 4 := by
  have hb := body_taken (l := l) (by omega)
  have e : l.take (lenR l + 7) = l.take (lenR l + 3) ++ (l.drop (lenR l + 3)).take 4 := by
    rw [show lenR l + 7 = (lenR l + 3) + 4 by omega, List.take_add]
  unfold frameR sumR
  rw [hb, e]
  exact ⟨fun h => List.append_cancel_left h, fun h => by rw [h]⟩

set_option maxRecDepth 100000 in
set_option maxHeartbeats 8000000 in
/-- Fewer than three bytes. -/
theorem cread_few (X : Snt14) (salt : Nat) (A : Option Addr) (n c B : Nat) (l : List UInt8) (w : World) (hA : Lds14 X w) (h : Rd w B A n l) (h3 : n < 3) :
    Calls Tryd.prog 70 #[.int .u64 (salt : Int), .slice A n c] w (ReaR X salt l w) := by
  have hb1 : Below w.heap.size w (w.alloc (.cells #[.int .i64 0, .slice none 0 0] 35)) := (Below.refl _ _).alloc (Nat.le_refl _) _
  have HB := Lib.hid hb1
  obtain ⟨⟨z0, z1⟩, f0, f1⟩ := row2 (heap_alloc_new w (.cells #[.int .i64 0, .slice none 0 0] 35))
  have HX : Hid (nextR salt l = (.zero, 0, 30)) := by
    show _ = _
    unfold nextR
    rw [if_pos (by rw [h.1]; exact h3)]
  have h3i : (n : Int) < 3 := by omega
  have cs := (hA.below hb1 (Nat.le_refl _)).cs
  unfold snt14 at cs
  have h1 := hA.lt
  have hne : ¬ w.heap.size = 1 := by omega
  clear h h3 hA hb1 h1
  go_enter Tryd.func70, Tryd.ntmps70
  go_wp2_with fail
  go_region
  go_wp2_with fail
  exact bodyPost_ret (v := .tuple #[.agg #[.int .i64 0, .slice none 0 0], .int .i64 0, (.iface 111 (.agg #[.string ⟨#[105, 116, 115, 32, 104, 101, 97, 100]⟩, .iface 142 (.pointer (some X.s))]))]) (by simp [results, Tryd.results70, go_sem, z0, z1]) rfl (reaR_no HX.out (by first | exact HB.out | exact below_put2 HB.out (Nat.le_refl _) | exact HB.out.drew | exact (below_put2 HB.out (Nat.le_refl _)).drew) rfl (.inl ⟨rfl, _, rfl⟩))

set_option maxRecDepth 100000 in
set_option maxHeartbeats 16000000 in
/-- Three bytes and more. -/
theorem cread_many (X : Snt14) (salt : Nat) (A : Option Addr) (n c B : Nat) (l : List UInt8) (w : World) (hA : Lds14 X w) (hsl : salt < 18446744073709551616) (h : Rd w B A n l) (hB : B ≤ w.heap.size) (hn : n ≤ 140737488355328) (hc : n ≤ c) (hc2 : c ≤ 9223372036854775807) (h3 : ¬ n < 3) :
    Calls Tryd.prog 70 #[.int .u64 (salt : Int), .slice A n c] w (ReaR X salt l w) := by
  obtain ⟨w1, hw1⟩ : ∃ w1, w1 = w.alloc (.cells #[.int .i64 0, .slice none 0 0] 35) := ⟨_, rfl⟩
  have hb1 : Below w.heap.size w w1 := by rw [hw1]; exact (Below.refl _ _).alloc (Nat.le_refl _) _
  have HB := Lib.hid hb1
  have HZ : Hid (w1.heap[w.heap.size]? = some (.cells #[.int .i64 0, .slice none 0 0] 35 (0, 0))) := by show _ = _; rw [hw1]; exact heap_alloc_new w _
  have HG : Hid (w.heap.size < w1.heap.size) := (Array.getElem?_eq_some_iff.1 HZ.out).1
  have HW := Lib.hid hw1
  have hA1 := hA.below hb1 (Nat.le_refl _)
  have HL := Lib.hid hA1
  have hlt := hA.lt
  have hne1 : ¬ w.heap.size = 1 := by omega
  have hne0 : ¬ w.heap.size = 0 := by omega
  have h1 : Rd w1 B A n l := h.below (hb1.mono hB)
  have hB1 : B ≤ w1.heap.size := Nat.le_trans hB hb1.size
  obtain ⟨b, o, rfl, hb, hcell⟩ := h1.2 (by omega)
  have q2 := hcell 2 (by omega)
  obtain ⟨A2, c2, cut2, hc22, hc23, hr2⟩ := cut_h (P := Tryd.prog) 33 5 Tryd.underlying33 size_u8 c h1 2 2 rfl (by omega) hc
  have CG := Lib.hid (get_any A2 2 c2 (l.take 2) w1 B hr2 (by decide) (by omega) (by omega))
  have hlR : beNat ((l.take 2).drop (2 - 8)) = lenR l := rfl
  rw [hlR] at CG
  have hll : l.length = n := h.1
  have h3i : ¬ (n : Int) < 3 := by omega
  have h2i : (2 : Int) < (n : Int) := by omega
  obtain ⟨M, hM⟩ : ∃ M, M = lenR l := ⟨_, rfl⟩
  obtain ⟨x, hX⟩ : ∃ x, x = l.getD 2 0 := ⟨_, rfl⟩
  have hM6 : M < 65536 := by rw [hM]; exact lenR_lt l
  rw [← hM] at CG
  rw [← hX] at q2
  have wM : IntKind.i64.wrap (M : Int) = (M : Int) := by rw [IntKind.wrap_i64]; omega
  have wX : IntKind.i64.wrap (x.toNat : Int) = (x.toNat : Int) := by have := x.toNat_lt; rw [IntKind.wrap_i64]; omega
  have CC := Lib.hid (check14_any X (x.toNat : Int) M w1 hA1)
  have q1 := fun (W : World) (u : TypeId) (y : Value) => run_neq_iface_nil (P := Tryd.prog) (w := W) 101 (by kernel_rfl) u y
  have q0 := fun (W : World) => run_neq_nil_nil_at (P := Tryd.prog) (w := W) 101 (by kernel_rfl)
  have hxi : x = 0 ↔ ¬ (1 : Int) ≤ (x.toNat : Int) := by
    rw [show x = 0 ↔ x.toNat = 0 from ⟨fun e => by rw [e]; rfl, fun e => UInt8.toNat_inj.1 e⟩]
    omega
  have hx2 := x.toNat_lt
  unfold ChkR at CC
  by_cases hmay : mayR (x.toNat : Int) M
  case neg =>
    have HX : Hid (nextR salt l = (.zero, 0, 140)) := by
      show _ = _
      unfold nextR
      rw [if_neg (by omega), if_pos]
      by_cases h0 : x = 0
      · exact .inl (by rw [← hX]; exact h0)
      · refine .inr ?_
        rw [← hM]
        rcases Nat.lt_or_ge 8192 M with hh | hh
        · exact hh
        · exact absurd ⟨by rcases Int.lt_or_le (x.toNat : Int) 1 with g | g; exact absurd (hxi.2 (by omega)) h0; exact g, by omega, hh⟩ hmay
    have HM := Lib.hid hmay
    clear h h1 h3 hb1 hw1 hB hB1 hcell hr2 hlR hll hX hM hn hc hc2 hb hmay hxi hx2 hM6 hA hA1 hsl hlt hc22 hc23 hne0 hne1
    go_enter Tryd.func70, Tryd.ntmps70
    go_wp2_with fail
    rw [← HW.out]
    refine CG.out.mono ?_
    rintro e u1 ⟨rfl, rfl⟩
    go_wp2_with fail
    refine CC.out.mono ?_
    rintro e w2 ⟨hb2, E, rfl, -, hE⟩
    obtain ⟨s, rfl⟩ := hE HM.out
    have B2 := Lib.hid (HB.out.trans (hb2.mono HB.out.size))
    obtain ⟨⟨z0, z1⟩, f0, f1⟩ := row2 ((hb2.block _ HG.out).trans HZ.out)
    clear hb2 hE q2 cut2
    unfold flt14 snt14 at *
    go_wp2_with fail
    exact bodyPost_ret (v := .tuple #[.agg #[.int .i64 0, .slice none 0 0], .int .i64 0, (.iface 111 (.agg #[.string s, .iface 142 (.pointer (some X.r))]))]) (by simp [results, Tryd.results70, go_sem, z0, z1]) rfl (reaR_no HX.out (by first | exact B2.out | exact below_put2 B2.out (Nat.le_refl _) | exact B2.out.drew | exact (below_put2 B2.out (Nat.le_refl _)).drew) rfl (.inr ⟨rfl, _, rfl⟩))
  obtain ⟨hm1, -, hm3⟩ := hmay
  have HMY : Hid (mayR (x.toNat : Int) M) := ⟨hm1, by omega, hm3⟩
  have h0 : ¬ l.getD 2 0 = 0 := by rw [← hX, hxi]; omega
  have h8 : ¬ 8192 < lenR l := by rw [← hM]; omega
  have CZ := Lib.hid (fun W => sizeOf14_any M W (by omega))
  have hcell2 := hcell 2 (by omega)
  rw [← hX] at hcell2
  by_cases hs : n < M + 7
  case pos =>
    have HX : Hid (nextR salt l = (.zero, 0, 30)) := by
      show _ = _
      unfold nextR
      rw [if_neg (by omega), if_neg (by rintro (h | h); exact h0 h; exact h8 h), if_pos (by omega)]
    have hsi : (n : Int) < (M : Int) + 7 := by omega
    clear h h1 h3 hb1 hw1 hB hB1 hcell hr2 hlR hll hX hM hn hc hc2 hb hxi hx2 hM6 hA hA1 hsl hlt hc22 hc23 hm1 hm3 h0 h8 hs
    go_enter Tryd.func70, Tryd.ntmps70
    go_wp2_with fail
    rw [← HW.out]
    refine CG.out.mono ?_
    rintro e u1 ⟨rfl, rfl⟩
    go_wp2_with fail
    refine CC.out.mono ?_
    rintro e w2 ⟨hb2, E, rfl, hE, -⟩
    obtain rfl := hE HMY.out
    have B2 := Lib.hid (HB.out.trans (hb2.mono HB.out.size))
    obtain ⟨⟨z0, z1⟩, f0, f1⟩ := row2 ((hb2.block _ HG.out).trans HZ.out)
    have cs := (HL.out.below hb2 (Nat.le_refl _)).cs
    unfold snt14 at cs
    clear hb2 hE q2 cut2 hcell2
    go_wp2_with (first
      | (go_at_call 59; refine (CZ.out _).mono ?_; rintro e wz ⟨rfl, rfl⟩)
      | fail)
    go_region
    go_wp2_with fail
    exact bodyPost_ret (v := .tuple #[.agg #[.int .i64 0, .slice none 0 0], .int .i64 0, (.iface 111 (.agg #[.string ⟨#[105, 116, 115, 32, 100, 97, 116, 97]⟩, .iface 142 (.pointer (some X.s))]))]) (by simp [results, Tryd.results70, go_sem, z0, z1]) rfl (reaR_no HX.out (by first | exact B2.out | exact below_put2 B2.out (Nat.le_refl _) | exact B2.out.drew | exact (below_put2 B2.out (Nat.le_refl _)).drew) rfl (.inl ⟨rfl, _, rfl⟩))
  have hsi : ¬ (n : Int) < (M : Int) + 7 := by omega
  have w74 : IntKind.i64.wrap ((M : Int) + 7 - 4) = (M : Int) + 3 := by rw [IntKind.wrap_i64]; omega
  have w3 : IntKind.i64.wrap ((M : Int) + 3) = (M : Int) + 3 := by rw [IntKind.wrap_i64]; omega
  obtain ⟨A5, c5, cut5, hc5, hc52, hr5⟩ := cut_h (P := Tryd.prog) 33 5 Tryd.underlying33 size_u8 c h1 ((M : Int) + 3) (M + 3) (by omega) (by omega) hc
  obtain ⟨A6, c6, cut6, hc6, -, hr6⟩ := cut_lh14 (P := Tryd.prog) 33 5 Tryd.underlying33 size_u8 c h1 ((M : Int) + 3) ((M : Int) + 7) (M + 3) (M + 7) (by omega) (by omega) (by omega) (by omega) hc (by omega)
  rw [show M + 7 - (M + 3) = 4 by omega] at cut6 hr6
  obtain ⟨A7, c7, cut7, -, -, hr7⟩ := cut_l (P := Tryd.prog) 33 5 Tryd.underlying33 size_u8 c5 hr5 3 3 rfl (by omega) hc5
  rw [show M + 3 - 3 = M by omega] at cut7 hr7
  obtain ⟨dd, hdd⟩ : ∃ dd, dd = (l.take (M + 3)).drop 3 := ⟨_, rfl⟩
  obtain ⟨l5, hl5⟩ : ∃ l5, l5 = l.take (M + 3) := ⟨_, rfl⟩
  obtain ⟨l6, hl6⟩ : ∃ l6, l6 = (l.drop (M + 3)).take 4 := ⟨_, rfl⟩
  rw [← hdd] at hr7
  rw [← hl5] at hr5
  rw [← hl6] at hr6
  have R5 : Hid (∀ W, Below w1.heap.size w1 W → Rd W B A5 (M + 3) l5) := fun W hW => hr5.below (hW.mono hB1)
  have R6 : Hid (∀ W, Below w1.heap.size w1 W → Rd W B A6 4 l6) := fun W hW => hr6.below (hW.mono hB1)
  have R7 : Hid (∀ W, Below w1.heap.size w1 W → Rd W B A7 M dd) := fun W hW => hr7.below (hW.mono hB1)
  have HBB := Lib.hid hB1
  have HNM : Hid (M ≤ 8192) := by show _ ≤ _; omega
  have HSL := Lib.hid hsl
  have HTS := taken_sum (salt := salt) (l := l) (by omega)
  rw [← hM, ← hl5, ← hl6] at HTS
  have etk : takenR l = ⟨(x.toNat : Int), dd⟩ := by
    unfold takenR
    rw [← hX, ← hM, hdd, List.drop_take, show M + 3 - 3 = M by omega]
  have HNX : Hid (nextR salt l = if crcBytes 2 (be salt 8 ++ l5) = l6 then (⟨(x.toNat : Int), dd⟩, M + 7, 0) else (.zero, 0, 140)) := by
    show _ = _
    unfold nextR
    rw [if_neg (by omega), if_neg (by rintro (h | h); exact h0 h; exact h8 h), if_neg (by omega), ← hM, etk]
    rw [etk] at HTS
    by_cases hh : crcBytes 2 (be salt 8 ++ l5) = l6
    · rw [if_pos (HTS.2 hh), if_pos hh]
    · rw [if_neg (fun h => hh (HTS.1 h)), if_neg hh]
  obtain ⟨S5, hS5⟩ : ∃ S5, S5 = crcBytes 2 (be salt 8 ++ l5) := ⟨_, rfl⟩
  have HS5 := Lib.hid hS5
  rw [← hS5] at HNX
  clear h h1 h3 hb1 hw1 hB hB1 hcell hr2 hr5 hr6 hr7 hlR hll hX hM hn hc hc2 hb hxi hx2 hM6 hA hA1 hsl hlt hc22 hc23 hm1 hm3 h0 h8 hs hc5 hc52 hc6 hdd hl5 hl6 etk HTS hS5
  go_enter Tryd.func70, Tryd.ntmps70
  go_wp2_with fail
  rw [← HW.out]
  refine CG.out.mono ?_
  rintro e u1 ⟨rfl, rfl⟩
  go_wp2_with fail
  refine CC.out.mono ?_
  rintro e w2 ⟨hb2, E, rfl, hE, -⟩
  obtain rfl := hE HMY.out
  have D2 := Lib.hid hb2
  clear hb2 hE q2 cut2 hcell2
  go_upto_region 12 with (first
    | (go_at_call 59; refine (CZ.out _).mono ?_; rintro e wz ⟨rfl, rfl⟩)
    | fail)
  refine wp_region_held_drew (S := fun W => Below w1.heap.size w1 W) (by kernel_rfl) D2.out.drew (fun hHeld => ?_)
  refine takeR (i := 0) (v := ?v0_1) rfl (by kernel_rfl) (by kernel_rfl) (by kernel_rfl) (fun _ _ _ h => h) (by rfl) ?hy0_1 (by assumption) ?rest0_1
  case hy0_1 => (intro W hSw; go_simp; try with_reducible rfl)
  try simp only [Act.put]
  try simp only [List.setIfInBounds_toArray]
  try simp only [List.set_cons_succ]
  try simp only [List.set_cons_zero]
  refine takeR (i := 1) (v := ?v1_2) rfl (by kernel_rfl) (by kernel_rfl) (by kernel_rfl) (fun _ _ _ h => h) (by rfl) ?hy1_2 (by assumption) ?rest1_2
  case hy1_2 => (intro W hSw; go_simp; try with_reducible rfl)
  try simp only [Act.put]
  try simp only [List.setIfInBounds_toArray]
  try simp only [List.set_cons_succ]
  try simp only [List.set_cons_zero]
  refine takeR (i := 3) (v := ?v3_3) rfl (by kernel_rfl) (by kernel_rfl) (by kernel_rfl) (fun _ _ _ h => h) (by rfl) ?hy3_3 (by assumption) ?rest3_3
  case hy3_3 => (intro W hSw; go_simp; try with_reducible rfl)
  try simp only [Act.put]
  try simp only [List.setIfInBounds_toArray]
  try simp only [List.set_cons_succ]
  try simp only [List.set_cons_zero]
  refine takeR (i := 4) (v := ?v4_4) rfl (by kernel_rfl) (by kernel_rfl) (by kernel_rfl) (fun _ _ _ h => h) (by rfl) ?hy4_4 (by assumption) ?rest4_4
  case hy4_4 => (intro W hSw; go_simp; try with_reducible rfl)
  try simp only [Act.put]
  try simp only [List.setIfInBounds_toArray]
  try simp only [List.set_cons_succ]
  try simp only [List.set_cons_zero]
  refine takeR (i := 5) (v := ?v5_5) rfl (by kernel_rfl) (by kernel_rfl) (by kernel_rfl) (fun _ _ _ h => h) (by rfl) ?hy5_5 (by assumption) ?rest5_5
  case hy5_5 => (intro W hSw; go_simp; try with_reducible rfl)
  try simp only [Act.put]
  try simp only [List.setIfInBounds_toArray]
  try simp only [List.set_cons_succ]
  try simp only [List.set_cons_zero]
  refine takeR (i := 6) (v := ?v6_6) rfl (by kernel_rfl) (by kernel_rfl) (by kernel_rfl) (fun _ _ _ h => h) (by rfl) ?hy6_6 (by assumption) ?rest6_6
  case hy6_6 => (intro W hSw; go_simp; try with_reducible rfl)
  try simp only [Act.put]
  try simp only [List.setIfInBounds_toArray]
  try simp only [List.set_cons_succ]
  try simp only [List.set_cons_zero]
  refine takeR (i := 7) (v := ?v7_7) rfl (by kernel_rfl) (by kernel_rfl) (by kernel_rfl) (fun _ _ _ h => h) (by rfl) ?hy7_7 (by assumption) ?rest7_7
  case hy7_7 => (intro W hSw; go_simp; try with_reducible rfl)
  try simp only [Act.put]
  try simp only [List.setIfInBounds_toArray]
  try simp only [List.set_cons_succ]
  try simp only [List.set_cons_zero]
  have BT : Hid (Below w1.heap.size w1 w2.drew) := D2.out.drew
  clear hHeld
  obtain ⟨wc, hwc⟩ : ∃ wc, wc = w2.drew := ⟨_, rfl⟩
  rw [← hwc] at BT
  rw [← hwc]
  clear hwc
  refine wpAnyH_ready (rs := [2]) (by kernel_rfl) (by simp) ?_
  refine AllReadyH.cons rfl (fun K hK => ?_) AllReadyH.nil
  rw [if_pos (by rfl)]
  go_simp
  refine (csum14_any salt A5 (M + 3) c5 B l5 wc HSL.out (R5.out wc BT.out) (Nat.le_trans HBB.out BT.out.size) (by have := HNM.out; omega)).mono ?_
  rintro e w3 ⟨A3, n3, c3, rfl, hr3, hc3, hb3⟩
  rw [← HS5.out] at hr3
  have R3 := Lib.hid hr3
  have B3 : Hid (Below w1.heap.size w1 w3) := BT.out.trans (hb3.mono BT.out.size)
  clear hr3 hc3 hb3
  refine hK.out _ _ B3.out (fun hHeld => ?_)
  try simp only [Act.put]
  try simp only [List.setIfInBounds_toArray]
  try simp only [List.set_cons_succ]
  try simp only [List.set_cons_zero]
  clear hK K hHeld
  refine wpAnyH_ready (rs := [8]) (by kernel_rfl) (by simp) ?_
  refine AllReadyH.cons rfl (fun K hK => ?_) AllReadyH.nil
  rw [if_pos (by rfl)]
  go_simp
  refine (bequal_any A3 A6 n3 c3 4 c6 w3.heap.size S5 l6 w3 R3.out ((R6.out w3 B3.out).more (Nat.le_trans HBB.out B3.out.size))).mono ?_
  rintro e w4 ⟨rfl, rfl⟩
  refine hK.out _ _ B3.out (fun hHeld => ?_)
  try simp only [Act.put]
  try simp only [List.setIfInBounds_toArray]
  try simp only [List.set_cons_succ]
  try simp only [List.set_cons_zero]
  clear hK K hHeld BT
  obtain ⟨be5, hbe5⟩ : ∃ be5, be5 = (S5 == l6) := ⟨_, rfl⟩
  rw [← hbe5]
  have HBE := Lib.hid hbe5
  clear hbe5
  refine takeR (i := 9) (v := ?v9_8) rfl (by kernel_rfl) (by kernel_rfl) (by kernel_rfl) (fun _ _ _ h => h) (by rfl) ?hy9_8 (by assumption) ?rest9_8
  case hy9_8 => (intro W hSw; go_simp; try with_reducible rfl)
  try simp only [Act.put]
  try simp only [List.setIfInBounds_toArray]
  try simp only [List.set_cons_succ]
  try simp only [List.set_cons_zero]
  refine wpAnyH_done (by kernel_rfl) ?_ _
  have D3 := Lib.hid (HB.out.trans (B3.out.mono HB.out.size))
  obtain ⟨⟨z0, z1⟩, f0, f1⟩ := row2 ((B3.out.block _ HG.out).trans HZ.out)
  have cr := (HL.out.below B3.out (Nat.le_refl _)).cr
  unfold snt14 at cr
  cases be5 with
  | false =>
    have HX : Hid (nextR salt l = (.zero, 0, 140)) := HNX.out.trans (if_neg (fun e => by have := HBE.out; rw [e, beq_self_eq_true] at this; cases this))
    go_wp2_with fail
    go_region
    go_wp2_with fail
    exact bodyPost_ret (v := .tuple #[.agg #[.int .i64 0, .slice none 0 0], .int .i64 0, (.iface 111 (.agg #[.string ⟨#[105, 116, 115, 32, 115, 117, 109]⟩, .iface 142 (.pointer (some X.r))]))]) (by simp [results, Tryd.results70, go_sem, z0, z1]) rfl (reaR_no HX.out (by first | exact D3.out | exact below_put2 D3.out (Nat.le_refl _) | exact D3.out.drew | exact (below_put2 D3.out (Nat.le_refl _)).drew) rfl (.inr ⟨rfl, _, rfl⟩))
  | true =>
    have HX : Hid (nextR salt l = (⟨(x.toNat : Int), dd⟩, M + 7, 0)) := HNX.out.trans (if_pos (beq_iff_eq.1 HBE.out.symm))
    have CL := Lib.hid (bclone14_any A7 M c7 B dd w3 (Nat.le_trans HBB.out B3.out.size) (R7.out w3 B3.out) (by have := HNM.out; omega))
    have HR3 := Lib.hid ((B3.out.block _ HG.out).trans HZ.out)
    have HG3 : Hid (w.heap.size < w3.heap.size) := Nat.lt_of_lt_of_le HG.out B3.out.size
    clear z0 z1 f0 f1 cr
    go_wp2_with (first
      | (go_at_call 75; refine CL.out.mono ?_; rintro e w5 ⟨v5, rfl, ho5, hb5⟩; obtain ⟨A8, c8, hv8, -, -, hr8⟩ := ho5.rd; rw [(R7.out w3 B3.out).1] at hv8; subst hv8; have O5 := Lib.hid ho5; have B5 := Lib.hid (D3.out.trans (hb5.mono D3.out.size)); obtain ⟨⟨z0, z1⟩, f0, f1⟩ := row2 ((hb5.block _ HG3.out).trans HR3.out); clear ho5 hb5 hr8)
      | fail)
    exact bodyPost_ret (v := .tuple #[.agg #[.int .i64 (x.toNat : Int), .slice A8 M c8], .int .i64 ((M : Int) + 7), .nilIface]) (by simp [results, Tryd.results70, go_sem, z0, z1]) rfl ⟨below_put2 B5.out (Nat.le_refl _), A8, M, c8, .nilIface, by rw [HX.out]; rfl, by rw [HX.out]; exact (O5.out.far14 (g := w.heap.size) (fun e => by have := (World.ownsRow.lt O5.out w.heap.size e).1; have := HG3.out; omega) (fun j hj => (Go.Deep.blk_setCell_other _ _ _ j hj).trans (Go.Deep.blk_setCell_other _ _ _ j hj))).wide (Nat.le_of_lt HG3.out), by rw [HX.out]; exact .inl ⟨rfl, rfl⟩⟩
end Go.Proofs.YtahgaogmcffglaaDoor
/- The code of layer 14: Next, Scan. (Made by gen/RecU.py.) -/
namespace Go.Proofs.YtahgaogmcffglaaDoor
open Go.RowKit

theorem cread_any (X : Snt14) (salt : Nat) (A : Option Addr) (n c B : Nat) (l : List UInt8) (w : World) (hA : Lds14 X w) (hsl : salt < 18446744073709551616) (h : Rd w B A n l) (hB : B ≤ w.heap.size) (hn : n ≤ 140737488355328) (hc : n ≤ c) (hc2 : c ≤ 9223372036854775807) :
    Calls Tryd.prog 70 #[.int .u64 (salt : Int), .slice A n c] w (ReaR X salt l w) := by
  by_cases h3 : n < 3
  · exact cread_few X salt A n c B l w hA h h3
  · exact cread_many X salt A n c B l w hA hsl h hB hn hc hc2 h3

set_option maxRecDepth 100000 in
set_option maxHeartbeats 16000000 in
theorem cnext_any (X : Snt14) (salt : Nat) (A : Option Addr) (n c B : Nat) (l : List UInt8) (w : World) (hA : Lds14 X w) (hsl : salt < 18446744073709551616) (h : Rd w B A n l) (hB : B ≤ w.heap.size) (hn : n ≤ 140737488355328) (hc : n ≤ c) (hc2 : c ≤ 9223372036854775807) :
    Calls Tryd.prog 63 #[.int .u64 (salt : Int), .slice A n c] w (NexR salt l w) := by
  obtain ⟨w1, hw1⟩ : ∃ w1, w1 = w.alloc (.cells #[.int .i64 0, .slice none 0 0] 35) := ⟨_, rfl⟩
  have hb1 : Below w.heap.size w w1 := by rw [hw1]; exact (Below.refl _ _).alloc (Nat.le_refl _) _
  have HB := Lib.hid hb1
  have HZ : Hid (w1.heap[w.heap.size]? = some (.cells #[.int .i64 0, .slice none 0 0] 35 (0, 0))) := by show _ = _; rw [hw1]; exact heap_alloc_new w _
  have HG : Hid (w.heap.size < w1.heap.size) := (Array.getElem?_eq_some_iff.1 HZ.out).1
  have HW := Lib.hid hw1
  have hA1 := hA.below hb1 (Nat.le_refl _)
  have HL := Lib.hid hA1
  have CR := Lib.hid (cread_any X salt A n c B l w1 hA1 hsl (h.below (hb1.mono hB)) (Nat.le_trans hB hb1.size) hn hc hc2)
  unfold ReaR recV at CR
  unfold NexR recV
  generalize nextR salt l = NX at *
  obtain ⟨⟨ty, dt⟩, sz, er⟩ := NX
  clear h hB hb1 hw1 hn hc hc2 hA hA1 hsl
  go_enter Tryd.func63, Tryd.ntmps63
  go_wp2_with fail
  rw [← HW.out]
  refine CR.out.mono ?_
  rintro e w2 ⟨hb2, A3, n3, c3, E, rfl, ho3, hE⟩
  have O2 := Lib.hid ho3
  have D2 := Lib.hid hb2
  have L2 := Lib.hid (HL.out.below hb2 (Nat.le_refl _))
  have HE := Lib.hid hE
  clear hb2 ho3 CR hE
  go_upto_region 2 with fail
  obtain ⟨w3, hw3⟩ : ∃ w3, w3 = w2.alloc (.cells #[.int .i64 ty, .slice A3 n3 c3] 35) := ⟨_, rfl⟩
  have b3 : Below w2.heap.size w2 w3 := by rw [hw3]; exact (Below.refl _ _).alloc (Nat.le_refl _) _
  have D3 : Hid (Below w1.heap.size w1 w3) := D2.out.trans (b3.mono D2.out.size)
  have L3 := Lib.hid (L2.out.below b3 (Nat.le_refl _))
  have O3 := Lib.hid (O2.out.below b3)
  have hx3 : w3.heap[w2.heap.size]? = some (.cells #[.int .i64 ty, .slice A3 n3 c3] 35 (0, 0)) := by rw [hw3]; exact heap_alloc_new w2 _
  have HG3 : Hid (w2.heap.size < w3.heap.size) := (Array.getElem?_eq_some_iff.1 hx3).1
  have X3 := Lib.hid hx3
  have Z3 : Hid (w3.heap[w.heap.size]? = some (.cells #[.int .i64 0, .slice none 0 0] 35 (0, 0))) := (D3.out.block _ HG.out).trans HZ.out
  have HG4 : Hid (w.heap.size < w3.heap.size) := Nat.lt_of_lt_of_le HG.out D3.out.size
  have CN : Hid (Calls Tryd.prog 66 #[E] w3.drew fun e w' => e = .returned (.int .i64 er) ∧ Below w3.drew.heap.size w3.drew w') := by
    have L3d : Lds14 X w3.drew := L3.out.below (Below.refl _ _).drew (Nat.le_refl _)
    rcases HE.out with ⟨h, rfl⟩ | ⟨h, s, rfl⟩ | ⟨h, s, rfl⟩
    · have h : er = 0 := h
      subst h
      exact (number14_nil X w3.drew L3d).mono (by rintro e w' ⟨rfl, rfl⟩; exact ⟨rfl, Below.refl _ _⟩)
    · have h : er = 30 := h
      subst h
      exact number14_s X s w3.drew L3d
    · have h : er = 140 := h
      subst h
      exact number14_r X s w3.drew L3d
  rw [← hw3]
  clear hw3 hx3 b3 HE
  have HD3 : Hid (Below w.heap.size w w3) := HB.out.trans (D3.out.mono HB.out.size)
  have HNE : Hid (w2.heap.size ≠ w.heap.size) := by show w2.heap.size ≠ _; have := HG.out; have := D2.out.size; omega
  refine wp_region_held_drew (S := fun W => Below w.heap.size w W ∧ W.heap[w2.heap.size]? = some (.cells #[.int .i64 ty, .slice A3 n3 c3] 35 (0, 0))) (by kernel_rfl) ⟨HD3.out.drew, X3.out⟩ (fun hHeld => ?_)
  refine takeR (i := 0) (v := ?v0_1) rfl (by kernel_rfl) (by kernel_rfl) (by kernel_rfl) (fun _ _ _ h => h) (by rfl) ?hy0_1 (by assumption) ?rest0_1
  case hy0_1 => (intro W hSw; obtain ⟨⟨x0, x1⟩, -, -⟩ := row2 hSw.2; go_simp; try with_reducible rfl)
  try simp only [Act.put]
  try simp only [List.setIfInBounds_toArray]
  try simp only [List.set_cons_succ]
  try simp only [List.set_cons_zero]
  refine takeR (i := 1) (v := ?v1_2) rfl (by kernel_rfl) (by kernel_rfl) (by kernel_rfl) (fun _ _ _ h => h) (by rfl) ?hy1_2 (by assumption) ?rest1_2
  case hy1_2 => (intro W hSw; go_simp; try with_reducible rfl)
  try simp only [Act.put]
  try simp only [List.setIfInBounds_toArray]
  try simp only [List.set_cons_succ]
  try simp only [List.set_cons_zero]
  refine takeR (i := 2) (v := ?v2_3) rfl (by kernel_rfl) (by kernel_rfl) (by kernel_rfl) (fun _ _ _ h => h) (by rfl) ?hy2_3 (by assumption) ?rest2_3
  case hy2_3 => (intro W hSw; go_simp; try with_reducible rfl)
  try simp only [Act.put]
  try simp only [List.setIfInBounds_toArray]
  try simp only [List.set_cons_succ]
  try simp only [List.set_cons_zero]
  have BT : Hid (Below w3.heap.size w3 w3.drew) := (Below.refl _ _).drew
  clear hHeld
  obtain ⟨wc, hwc⟩ : ∃ wc, wc = w3.drew := ⟨_, rfl⟩
  rw [← hwc] at BT CN
  rw [← hwc]
  clear hwc
  refine wpAnyH_ready (rs := [3]) (by kernel_rfl) (by simp) ?_
  refine AllReadyH.cons rfl (fun K hK => ?_) AllReadyH.nil
  rw [if_pos (by rfl)]
  go_simp
  refine CN.out.mono ?_
  rintro e w4 ⟨rfl, hb4⟩
  have B4 : Hid (Below w3.heap.size w3 w4) := BT.out.trans (hb4.mono BT.out.size)
  clear hb4
  refine hK.out _ _ ⟨HD3.out.trans (B4.out.mono HD3.out.size), (B4.out.block _ HG3.out).trans X3.out⟩ (fun hHeld => ?_)
  try simp only [Act.put]
  try simp only [List.setIfInBounds_toArray]
  try simp only [List.set_cons_succ]
  try simp only [List.set_cons_zero]
  clear hK K hHeld BT CN
  refine wpAnyH_ready (rs := [4]) (by kernel_rfl) (by simp) ?_
  refine AllReadyH.cons rfl (fun K hK => ?_) AllReadyH.nil
  refine step_st2 (by rfl) 35 (.tmp 4) (.tmp 17) (by rfl) w.heap.size (.int .i64 ty) (.slice A3 n3 c3) (by rfl) (by rfl) 35 #[.int .i64 0, .slice none 0 0] ((B4.out.block _ HG4.out).trans Z3.out) (by kernel_rfl) (by rfl) (by rfl) ?_
  intro w5 hr5 hb5 hs5 hk5
  have B5 : Hid (Below w.heap.size w w5) := hb5 _ _ (HB.out.trans ((D3.out.trans (B4.out.mono D3.out.size)).mono HB.out.size)) (Nat.le_refl _)
  have x5 := (hk5 _ HNE.out).trans ((B4.out.block _ HG3.out).trans X3.out)
  have O5 : Hid (Ob w5 w1.heap.size 5 (.slice A3 n3 c3) dt) := (O3.out.below B4.out).far14 (fun e => by have := (World.ownsRow.lt O3.out w.heap.size e).1; have := HG.out; omega) hk5
  obtain ⟨⟨y0, y1⟩, -, -⟩ := row2 hr5
  clear hb5 hs5 hk5 hr5
  refine hK.out _ _ ⟨B5.out, x5⟩ (fun hHeld => ?_)
  try simp only [Act.put]
  try simp only [List.setIfInBounds_toArray]
  try simp only [List.set_cons_succ]
  try simp only [List.set_cons_zero]
  clear hK K
  refine takeR (i := 5) (v := ?v5_4) rfl (by kernel_rfl) (by kernel_rfl) (by kernel_rfl) (fun _ _ _ h => h) (by rfl) ?hy5_4 (by assumption) ?rest5_4
  case hy5_4 => (intro W hSw; go_simp; try with_reducible rfl)
  try simp only [Act.put]
  try simp only [List.setIfInBounds_toArray]
  try simp only [List.set_cons_succ]
  try simp only [List.set_cons_zero]
  refine takeR (i := 6) (v := ?v6_5) rfl (by kernel_rfl) (by kernel_rfl) (by kernel_rfl) (fun _ _ _ h => h) (by rfl) ?hy6_5 (by assumption) ?rest6_5
  case hy6_5 => (intro W hSw; go_simp; try with_reducible rfl)
  try simp only [Act.put]
  try simp only [List.setIfInBounds_toArray]
  try simp only [List.set_cons_succ]
  try simp only [List.set_cons_zero]
  refine wpAnyH_done (by kernel_rfl) ?_ _
  go_wp2_with fail
  exact bodyPost_ret (v := .tuple #[.agg #[.int .i64 ty, .slice A3 n3 c3], .int .i64 (sz : Int), .int .i64 er]) (by simp [results, Tryd.results63, go_sem, y0, y1]) rfl ⟨B5.out, A3, n3, c3, rfl, O5.out.wide HB.out.size⟩
set_option maxRecDepth 100000 in
set_option maxHeartbeats 16000000 in
theorem cscan_any (X : Snt14) (salt : Nat) (A : Option Addr) (n c B : Nat) (l : List UInt8) (w : World) (hA : Lds14 X w) (hsl : salt < 18446744073709551616) (h : Rd w B A n l) (hB : B ≤ w.heap.size) (hn : n ≤ 30786325577728) (hc : n ≤ c) (hcx : c ≤ 9223372036854775807) :
    Calls Tryd.prog 57 #[.int .u64 (salt : Int), .slice A n c] w (ScnR salt l w) := by
  have HR := Lib.hid h
  have HBB := Lib.hid hB
  have HLD := Lib.hid hA
  have HN := Lib.hid hn
  have HC := Lib.hid hc
  clear h hB hA
  go_enter Tryd.func57, Tryd.ntmps57
  go_wp2_with fail
  go_step3
  go_wp2_with fail
  go_step3
  go_wp2_with fail
  go_loopw [6, 7] (fun v i wr => ∃ (k : Nat) (qs : List QR), i = .int .i64 (k : Int) ∧ k ≤ n ∧ qs.length * 7 ≤ k ∧ Hid (ScS wr w.heap.size v qs ∧ Below w.heap.size w wr) ∧ Hid (scanR salt l = (qs.map (·.1) ++ (scanR salt (l.drop k)).1, k + (scanR salt (l.drop k)).2)))
    (fun _ i _ => n - (intOf i).toNat)
  case atStart => exact ⟨0, [], rfl, Nat.zero_le _, Nat.le_refl _, ⟨⟨World.ownsRow_nil _ _ _ _, fun q hq => absurd hq (by simp)⟩, Below.refl _ _⟩, by show _ = _; simp⟩
  case round =>
    obtain ⟨k, qs, rfl, hk, hq7, hS, hE⟩ := hrel
    have hr1 : Rd wr B A n l := HR.out.below (hS.out.2.mono HBB.out)
    obtain ⟨A2, c2, cut2, hc2, hc3, hr2⟩ := cut_l (P := Tryd.prog) 33 5 Tryd.underlying33 size_u8 c hr1 (k : Int) k rfl hk hc
    have CN := Lib.hid (cnext_any X salt A2 (n - k) c2 B (l.drop k) wr (HLD.out.below hS.out.2 (Nat.le_refl _)) hsl hr2 (Nat.le_trans HBB.out hS.out.2.size) (by omega) hc2 (Nat.le_trans hc3 hcx))
    unfold NexR recV at CN
    have hst := scanR_step salt (l.drop k)
    have hok : (nextR salt (l.drop k)).2.2 = 0 → 7 ≤ (nextR salt (l.drop k)).2.1 ∧ (nextR salt (l.drop k)).2.1 ≤ n - k ∧ (nextR salt (l.drop k)).1.dat.length ≤ 8192 := fun h0 => by
      obtain ⟨r, e, hr, hl, -⟩ := next_ok h0
      rw [List.length_drop, HR.out.1] at hl
      rw [e]
      exact ⟨by show 7 ≤ _ + 7; omega, hl, (rokR_iff.1 hr).2.2⟩
    generalize nextR salt (l.drop k) = NX at *
    obtain ⟨⟨ty, dt⟩, sz, er⟩ := NX
    by_cases h0 : er = 0
    · subst h0
      rw [if_pos rfl, List.drop_drop] at hst
      obtain ⟨s1, s2, s3⟩ := hok rfl
      have HST := Lib.hid hst
      have s1' : 7 ≤ sz := s1
      have s2' : sz ≤ n - k := s2
      have H3 : Hid (dt.length ≤ 8192) := s3
      have w7 : IntKind.i64.wrap ((k : Int) + (sz : Int)) = (k : Int) + (sz : Int) := by rw [IntKind.wrap_i64]; omega
      clear hst hok hr1 hr2 hc2 s1 s2 s3
      go_wp2_with fail
      refine CN.out.mono ?_
      rintro e w2 ⟨hb2, A3, n3, c3, rfl, ho3⟩
      have S2 := Lib.hid (hS.out.1.below hb2)
      have B2 := Lib.hid (hS.out.2.trans (hb2.mono hS.out.2.size))
      have O2 := Lib.hid (Ob.wide ho3 hS.out.2.size)
      clear hb2 ho3 CN cut2
      have bW : Below w2.heap.size w2 ((w2.alloc (.cells #[.int .i64 ty, .slice A3 n3 c3] 35)).alloc (.cells #[.int .i64 ty, .slice A3 n3 c3] 35)) := ((Below.refl _ _).alloc (Nat.le_refl _) _).alloc (by simp) _
      have hz : (w2.alloc (.cells #[.int .i64 ty, .slice A3 n3 c3] 35)).heap.size = w2.heap.size + 1 := by simp
      obtain ⟨⟨x0, x1⟩, -, -⟩ := row2 (heap_alloc_new (w2.alloc (.cells #[.int .i64 ty, .slice A3 n3 c3] 35)) (.cells #[.int .i64 ty, .slice A3 n3 c3] 35))
      rw [hz] at x0 x1
      have X0 := Lib.hid x0
      have X1 := Lib.hid x1
      have SX := Lib.hid (S2.out.below bW)
      have OX := Lib.hid (O2.out.below bW)
      have BX := Lib.hid (B2.out.trans (bW.mono B2.out.size))
      have HL7 : Hid (qs.length + 1 ≤ 4398046511104) := by show _ ≤ _; omega
      clear bW hz x0 x1 S2 O2
      go_wp2_with (first
        | (at_builtin; refine wpList_appR rfl (.tmp 23) (.tmp 25) rfl w.heap.size _ qs rfl SX.out (w2.heap.size + 1) 1 (⟨ty, dt⟩, A3, n3, c3) rfl X0.out X1.out HL7.out BX.out.size ⟨OX.out, H3.out⟩ ?_; intro v4 w4 hs4 hb4; have S4 := Lib.hid hs4; have B4 := Lib.hid (BX.out.trans hb4); clear hs4 hb4)
        | fail)
      go_roundw
      case rel =>
        refine ⟨k + sz, qs ++ [(⟨ty, dt⟩, A3, n3, c3)], by go_num, by omega, by rw [List.length_append, List.length_singleton]; omega, ⟨S4.out, B4.out⟩, ?_⟩
        show _ = _
        rw [hE.out, HST.out]
        simp [List.append_assoc, Nat.add_assoc]
      case measure => simp [intOf]; omega
    · have HX : Hid (scanR salt l = (qs.map (·.1), k)) := by
        rw [if_neg h0] at hst
        show _ = _
        rw [hE.out, hst]
        simp
      have e0 : (er != 0) = true := by rw [bne_iff_ne]; exact h0
      have e1 : (er == 0) = false := beq_eq_false_iff_ne.2 h0
      clear hst hok hr1 hr2 hc2 h0
      go_wp2_with fail
      refine CN.out.mono ?_
      rintro e w2 ⟨hb2, A3, n3, c3, rfl, ho3⟩
      have S2 := Lib.hid (hS.out.1.below hb2)
      have B2 := Lib.hid (hS.out.2.trans (hb2.mono hS.out.2.size))
      clear hb2 ho3 CN cut2
      go_wp2_with fail
      exact bodyPost_ret (v := .tuple #[u6, .int .i64 (k : Int)]) (by simp [results, Tryd.results57, go_sem]) rfl ⟨B2.out.alloc B2.out.size _, u6, qs, by rw [HX.out], S2.out.below ((Below.refl _ _).alloc (Nat.le_refl _) _), by rw [HX.out]⟩
end Go.Proofs.YtahgaogmcffglaaDoor
