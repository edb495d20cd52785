/- The code of layer 14: Next, Scan. (Made by gen/RecU.py.) -/
import Derived.Test.YtlkppnghfgiapaaDoorRecT
namespace Go.Proofs.YtlkppnghfgiapaaDoor
open Go.RowKit

theorem cread_any (X : Snt14) (salt : Nat) (A : Option Addr) (n c B : Nat) (l : List UInt8) (w : World) (hA : Lds14 X w) (hsl : salt < 18446744073709551616) (h : Rd w B A n l) (hB : B ≤ w.heap.size) (hn : n ≤ 140737488355328) (hc : n ≤ c) (hc2 : c ≤ 9223372036854775807) :
    Calls Tryd.prog 26 #[.int .u64 (salt : Int), .slice A n c] w (ReaR X salt l w) := by
  by_cases h3 : n < 3
  · exact cread_few X salt A n c B l w hA h h3
  · exact cread_many X salt A n c B l w hA hsl h hB hn hc hc2 h3

set_option maxRecDepth 100000 in
set_option maxHeartbeats 16000000 in
theorem cnext_any (X : Snt14) (salt : Nat) (A : Option Addr) (n c B : Nat) (l : List UInt8) (w : World) (hA : Lds14 X w) (hsl : salt < 18446744073709551616) (h : Rd w B A n l) (hB : B ≤ w.heap.size) (hn : n ≤ 140737488355328) (hc : n ≤ c) (hc2 : c ≤ 9223372036854775807) :
    Calls Tryd.prog 13 #[.int .u64 (salt : Int), .slice A n c] w (NexR salt l w) := by
  obtain ⟨w1, hw1⟩ : ∃ w1, w1 = w.alloc (.cells #[.int .i64 0, .slice none 0 0] 25) := ⟨_, rfl⟩
  have hb1 : Below w.heap.size w w1 := by rw [hw1]; exact (Below.refl _ _).alloc (Nat.le_refl _) _
  have HB := Lib.hid hb1
  have HZ : Hid (w1.heap[w.heap.size]? = some (.cells #[.int .i64 0, .slice none 0 0] 25 (0, 0))) := by show _ = _; rw [hw1]; exact heap_alloc_new w _
  have HG : Hid (w.heap.size < w1.heap.size) := (Array.getElem?_eq_some_iff.1 HZ.out).1
  have HW := Lib.hid hw1
  have hA1 := hA.below hb1 (Nat.le_refl _)
  have HL := Lib.hid hA1
  have CR := Lib.hid (cread_any X salt A n c B l w1 hA1 hsl (h.below (hb1.mono hB)) (Nat.le_trans hB hb1.size) hn hc hc2)
  unfold ReaR recV at CR
  unfold NexR recV
  generalize nextR salt l = NX at *
  obtain ⟨⟨ty, dt⟩, sz, er⟩ := NX
  clear h hB hb1 hw1 hn hc hc2 hA hA1 hsl
  go_enter Tryd.func13, Tryd.ntmps13
  go_wp2_with fail
  rw [← HW.out]
  refine CR.out.mono ?_
  rintro e w2 ⟨hb2, A3, n3, c3, E, rfl, ho3, hE⟩
  have O2 := Lib.hid ho3
  have D2 := Lib.hid hb2
  have L2 := Lib.hid (HL.out.below hb2 (Nat.le_refl _))
  have HE := Lib.hid hE
  clear hb2 ho3 CR hE
  go_upto_region 2 with fail
  obtain ⟨w3, hw3⟩ : ∃ w3, w3 = w2.alloc (.cells #[.int .i64 ty, .slice A3 n3 c3] 25) := ⟨_, rfl⟩
  have b3 : Below w2.heap.size w2 w3 := by rw [hw3]; exact (Below.refl _ _).alloc (Nat.le_refl _) _
  have D3 : Hid (Below w1.heap.size w1 w3) := D2.out.trans (b3.mono D2.out.size)
  have L3 := Lib.hid (L2.out.below b3 (Nat.le_refl _))
  have O3 := Lib.hid (O2.out.below b3)
  have hx3 : w3.heap[w2.heap.size]? = some (.cells #[.int .i64 ty, .slice A3 n3 c3] 25 (0, 0)) := by rw [hw3]; exact heap_alloc_new w2 _
  have HG3 : Hid (w2.heap.size < w3.heap.size) := (Array.getElem?_eq_some_iff.1 hx3).1
  have X3 := Lib.hid hx3
  have Z3 : Hid (w3.heap[w.heap.size]? = some (.cells #[.int .i64 0, .slice none 0 0] 25 (0, 0))) := (D3.out.block _ HG.out).trans HZ.out
  have HG4 : Hid (w.heap.size < w3.heap.size) := Nat.lt_of_lt_of_le HG.out D3.out.size
  have CN : Hid (Calls Tryd.prog 19 #[E] w3.drew fun e w' => e = .returned (.int .i64 er) ∧ Below w3.drew.heap.size w3.drew w') := by
    have L3d : Lds14 X w3.drew := L3.out.below (Below.refl _ _).drew (Nat.le_refl _)
    rcases HE.out with ⟨h, rfl⟩ | ⟨h, s, rfl⟩ | ⟨h, s, rfl⟩
    · have h : er = 0 := h
      subst h
      exact (number14_nil X w3.drew L3d).mono (by rintro e w' ⟨rfl, rfl⟩; exact ⟨rfl, Below.refl _ _⟩)
    · have h : er = 30 := h
      subst h
      exact number14_s X s w3.drew L3d
    · have h : er = 140 := h
      subst h
      exact number14_r X s w3.drew L3d
  rw [← hw3]
  clear hw3 hx3 b3 HE
  have HD3 : Hid (Below w.heap.size w w3) := HB.out.trans (D3.out.mono HB.out.size)
  have HNE : Hid (w2.heap.size ≠ w.heap.size) := by show w2.heap.size ≠ _; have := HG.out; have := D2.out.size; omega
  refine wp_region_held_drew (S := fun W => Below w.heap.size w W ∧ W.heap[w2.heap.size]? = some (.cells #[.int .i64 ty, .slice A3 n3 c3] 25 (0, 0))) (by kernel_rfl) ⟨HD3.out.drew, X3.out⟩ (fun hHeld => ?_)
  refine takeR (i := 0) (v := ?v0_1) rfl (by kernel_rfl) (by kernel_rfl) (by kernel_rfl) (fun _ _ _ h => h) (by rfl) ?hy0_1 (by assumption) ?rest0_1
  case hy0_1 => (intro W hSw; obtain ⟨⟨x0, x1⟩, -, -⟩ := row2 hSw.2; go_simp; try with_reducible rfl)
  try simp only [Act.put]
  try simp only [List.setIfInBounds_toArray]
  try simp only [List.set_cons_succ]
  try simp only [List.set_cons_zero]
  refine takeR (i := 1) (v := ?v1_2) rfl (by kernel_rfl) (by kernel_rfl) (by kernel_rfl) (fun _ _ _ h => h) (by rfl) ?hy1_2 (by assumption) ?rest1_2
  case hy1_2 => (intro W hSw; go_simp; try with_reducible rfl)
  try simp only [Act.put]
  try simp only [List.setIfInBounds_toArray]
  try simp only [List.set_cons_succ]
  try simp only [List.set_cons_zero]
  refine takeR (i := 2) (v := ?v2_3) rfl (by kernel_rfl) (by kernel_rfl) (by kernel_rfl) (fun _ _ _ h => h) (by rfl) ?hy2_3 (by assumption) ?rest2_3
  case hy2_3 => (intro W hSw; go_simp; try with_reducible rfl)
  try simp only [Act.put]
  try simp only [List.setIfInBounds_toArray]
  try simp only [List.set_cons_succ]
  try simp only [List.set_cons_zero]
  have BT : Hid (Below w3.heap.size w3 w3.drew) := (Below.refl _ _).drew
  clear hHeld
  obtain ⟨wc, hwc⟩ : ∃ wc, wc = w3.drew := ⟨_, rfl⟩
  rw [← hwc] at BT CN
  rw [← hwc]
  clear hwc
  refine wpAnyH_ready (rs := [3]) (by kernel_rfl) (by simp) ?_
  refine AllReadyH.cons rfl (fun K hK => ?_) AllReadyH.nil
  rw [if_pos (by rfl)]
  go_simp
  refine CN.out.mono ?_
  rintro e w4 ⟨rfl, hb4⟩
  have B4 : Hid (Below w3.heap.size w3 w4) := BT.out.trans (hb4.mono BT.out.size)
  clear hb4
  refine hK.out _ _ ⟨HD3.out.trans (B4.out.mono HD3.out.size), (B4.out.block _ HG3.out).trans X3.out⟩ (fun hHeld => ?_)
  try simp only [Act.put]
  try simp only [List.setIfInBounds_toArray]
  try simp only [List.set_cons_succ]
  try simp only [List.set_cons_zero]
  clear hK K hHeld BT CN
  refine wpAnyH_ready (rs := [4]) (by kernel_rfl) (by simp) ?_
  refine AllReadyH.cons rfl (fun K hK => ?_) AllReadyH.nil
  refine step_st2 (by rfl) 25 (.tmp 4) (.tmp 17) (by rfl) w.heap.size (.int .i64 ty) (.slice A3 n3 c3) (by rfl) (by rfl) 25 #[.int .i64 0, .slice none 0 0] ((B4.out.block _ HG4.out).trans Z3.out) (by kernel_rfl) (by rfl) (by rfl) ?_
  intro w5 hr5 hb5 hs5 hk5
  have B5 : Hid (Below w.heap.size w w5) := hb5 _ _ (HB.out.trans ((D3.out.trans (B4.out.mono D3.out.size)).mono HB.out.size)) (Nat.le_refl _)
  have x5 := (hk5 _ HNE.out).trans ((B4.out.block _ HG3.out).trans X3.out)
  have O5 : Hid (Ob w5 w1.heap.size 5 (.slice A3 n3 c3) dt) := (O3.out.below B4.out).far14 (fun e => by have := (World.ownsRow.lt O3.out w.heap.size e).1; have := HG.out; omega) hk5
  obtain ⟨⟨y0, y1⟩, -, -⟩ := row2 hr5
  clear hb5 hs5 hk5 hr5
  refine hK.out _ _ ⟨B5.out, x5⟩ (fun hHeld => ?_)
  try simp only [Act.put]
  try simp only [List.setIfInBounds_toArray]
  try simp only [List.set_cons_succ]
  try simp only [List.set_cons_zero]
  clear hK K
  refine takeR (i := 5) (v := ?v5_4) rfl (by kernel_rfl) (by kernel_rfl) (by kernel_rfl) (fun _ _ _ h => h) (by rfl) ?hy5_4 (by assumption) ?rest5_4
  case hy5_4 => (intro W hSw; go_simp; try with_reducible rfl)
  try simp only [Act.put]
  try simp only [List.setIfInBounds_toArray]
  try simp only [List.set_cons_succ]
  try simp only [List.set_cons_zero]
  refine takeR (i := 6) (v := ?v6_5) rfl (by kernel_rfl) (by kernel_rfl) (by kernel_rfl) (fun _ _ _ h => h) (by rfl) ?hy6_5 (by assumption) ?rest6_5
  case hy6_5 => (intro W hSw; go_simp; try with_reducible rfl)
  try simp only [Act.put]
  try simp only [List.setIfInBounds_toArray]
  try simp only [List.set_cons_succ]
  try simp only [List.set_cons_zero]
  refine wpAnyH_done (by kernel_rfl) ?_ _
  go_wp2_with fail
  exact bodyPost_ret (v := .tuple #[.agg #[.int .i64 ty, .slice A3 n3 c3], .int .i64 (sz : Int), .int .i64 er]) (by simp [results, Tryd.results13, go_sem, y0, y1]) rfl ⟨B5.out, A3, n3, c3, rfl, O5.out.wide HB.out.size⟩
set_option maxRecDepth 100000 in
set_option maxHeartbeats 16000000 in
theorem cscan_any (X : Snt14) (salt : Nat) (A : Option Addr) (n c B : Nat) (l : List UInt8) (w : World) (hA : Lds14 X w) (hsl : salt < 18446744073709551616) (h : Rd w B A n l) (hB : B ≤ w.heap.size) (hn : n ≤ 30786325577728) (hc : n ≤ c) (hcx : c ≤ 9223372036854775807) :
    Calls Tryd.prog 15 #[.int .u64 (salt : Int), .slice A n c] w (ScnR salt l w) := by
  have HR := Lib.hid h
  have HBB := Lib.hid hB
  have HLD := Lib.hid hA
  have HN := Lib.hid hn
  have HC := Lib.hid hc
  clear h hB hA
  go_enter Tryd.func15, Tryd.ntmps15
  go_wp2_with fail
  go_step3
  go_wp2_with fail
  go_step3
  go_wp2_with fail
  go_loopw [6, 7] (fun v i wr => ∃ (k : Nat) (qs : List QR), i = .int .i64 (k : Int) ∧ k ≤ n ∧ qs.length * 7 ≤ k ∧ Hid (ScS wr w.heap.size v qs ∧ Below w.heap.size w wr) ∧ Hid (scanR salt l = (qs.map (·.1) ++ (scanR salt (l.drop k)).1, k + (scanR salt (l.drop k)).2)))
    (fun _ i _ => n - (intOf i).toNat)
  case atStart => exact ⟨0, [], rfl, Nat.zero_le _, Nat.le_refl _, ⟨⟨World.ownsRow_nil _ _ _ _, fun q hq => absurd hq (by simp)⟩, Below.refl _ _⟩, by show _ = _; simp⟩
  case round =>
    obtain ⟨k, qs, rfl, hk, hq7, hS, hE⟩ := hrel
    have hr1 : Rd wr B A n l := HR.out.below (hS.out.2.mono HBB.out)
    obtain ⟨A2, c2, cut2, hc2, hc3, hr2⟩ := cut_l (P := Tryd.prog) 23 5 Tryd.underlying23 size_u8 c hr1 (k : Int) k rfl hk hc
    have CN := Lib.hid (cnext_any X salt A2 (n - k) c2 B (l.drop k) wr (HLD.out.below hS.out.2 (Nat.le_refl _)) hsl hr2 (Nat.le_trans HBB.out hS.out.2.size) (by omega) hc2 (Nat.le_trans hc3 hcx))
    unfold NexR recV at CN
    have hst := scanR_step salt (l.drop k)
    have hok : (nextR salt (l.drop k)).2.2 = 0 → 7 ≤ (nextR salt (l.drop k)).2.1 ∧ (nextR salt (l.drop k)).2.1 ≤ n - k ∧ (nextR salt (l.drop k)).1.dat.length ≤ 8192 := fun h0 => by
      obtain ⟨r, e, hr, hl, -⟩ := next_ok h0
      rw [List.length_drop, HR.out.1] at hl
      rw [e]
      exact ⟨by show 7 ≤ _ + 7; omega, hl, (rokR_iff.1 hr).2.2⟩
    generalize nextR salt (l.drop k) = NX at *
    obtain ⟨⟨ty, dt⟩, sz, er⟩ := NX
    by_cases h0 : er = 0
    · subst h0
      rw [if_pos rfl, List.drop_drop] at hst
      obtain ⟨s1, s2, s3⟩ := hok rfl
      have HST := Lib.hid hst
      have s1' : 7 ≤ sz := s1
      have s2' : sz ≤ n - k := s2
      have H3 : Hid (dt.length ≤ 8192) := s3
      have w7 : IntKind.i64.wrap ((k : Int) + (sz : Int)) = (k : Int) + (sz : Int) := by rw [IntKind.wrap_i64]; omega
      clear hst hok hr1 hr2 hc2 s1 s2 s3
      go_wp2_with fail
      refine CN.out.mono ?_
      rintro e w2 ⟨hb2, A3, n3, c3, rfl, ho3⟩
      have S2 := Lib.hid (hS.out.1.below hb2)
      have B2 := Lib.hid (hS.out.2.trans (hb2.mono hS.out.2.size))
      have O2 := Lib.hid (Ob.wide ho3 hS.out.2.size)
      clear hb2 ho3 CN cut2
      have bW : Below w2.heap.size w2 ((w2.alloc (.cells #[.int .i64 ty, .slice A3 n3 c3] 25)).alloc (.cells #[.int .i64 ty, .slice A3 n3 c3] 25)) := ((Below.refl _ _).alloc (Nat.le_refl _) _).alloc (by simp) _
      have hz : (w2.alloc (.cells #[.int .i64 ty, .slice A3 n3 c3] 25)).heap.size = w2.heap.size + 1 := by simp
      obtain ⟨⟨x0, x1⟩, -, -⟩ := row2 (heap_alloc_new (w2.alloc (.cells #[.int .i64 ty, .slice A3 n3 c3] 25)) (.cells #[.int .i64 ty, .slice A3 n3 c3] 25))
      rw [hz] at x0 x1
      have X0 := Lib.hid x0
      have X1 := Lib.hid x1
      have SX := Lib.hid (S2.out.below bW)
      have OX := Lib.hid (O2.out.below bW)
      have BX := Lib.hid (B2.out.trans (bW.mono B2.out.size))
      have HL7 : Hid (qs.length + 1 ≤ 4398046511104) := by show _ ≤ _; omega
      clear bW hz x0 x1 S2 O2
      go_wp2_with (first
        | (at_builtin; refine wpList_appR rfl (.tmp 23) (.tmp 25) rfl w.heap.size _ qs rfl SX.out (w2.heap.size + 1) 1 (⟨ty, dt⟩, A3, n3, c3) rfl X0.out X1.out HL7.out BX.out.size ⟨OX.out, H3.out⟩ ?_; intro v4 w4 hs4 hb4; have S4 := Lib.hid hs4; have B4 := Lib.hid (BX.out.trans hb4); clear hs4 hb4)
        | fail)
      go_roundw
      case rel =>
        refine ⟨k + sz, qs ++ [(⟨ty, dt⟩, A3, n3, c3)], by go_num, by omega, by rw [List.length_append, List.length_singleton]; omega, ⟨S4.out, B4.out⟩, ?_⟩
        show _ = _
        rw [hE.out, HST.out]
        simp [List.append_assoc, Nat.add_assoc]
      case measure => simp [intOf]; omega
    · have HX : Hid (scanR salt l = (qs.map (·.1), k)) := by
        rw [if_neg h0] at hst
        show _ = _
        rw [hE.out, hst]
        simp
      have e0 : (er != 0) = true := by rw [bne_iff_ne]; exact h0
      have e1 : (er == 0) = false := beq_eq_false_iff_ne.2 h0
      clear hst hok hr1 hr2 hc2 h0
      go_wp2_with fail
      refine CN.out.mono ?_
      rintro e w2 ⟨hb2, A3, n3, c3, rfl, ho3⟩
      have S2 := Lib.hid (hS.out.1.below hb2)
      have B2 := Lib.hid (hS.out.2.trans (hb2.mono hS.out.2.size))
      clear hb2 ho3 CN cut2
      go_wp2_with fail
      exact bodyPost_ret (v := .tuple #[u6, .int .i64 (k : Int)]) (by simp [results, Tryd.results15, go_sem]) rfl ⟨B2.out.alloc B2.out.size _, u6, qs, by rw [HX.out], S2.out.below ((Below.refl _ _).alloc (Nat.le_refl _) _), by rw [HX.out]⟩
end Go.Proofs.YtlkppnghfgiapaaDoor
