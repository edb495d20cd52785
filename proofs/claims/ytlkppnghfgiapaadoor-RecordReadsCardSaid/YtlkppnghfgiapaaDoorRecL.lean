/- Layer 14's reference: Scan. (Made by gen/RecL.py.) -/
import Derived.Test.YtlkppnghfgiapaaDoorRecK
namespace Go.Proofs.YtlkppnghfgiapaaDoor
open Go.RowKit

/-- What Scan answers. -/
def ScnR (salt : Nat) (l : List UInt8) (w : World) (e : Ending) (w' : World) : Prop := Below w.heap.size w w' ∧ ∃ v qs, e = .returned (.tuple #[v, .int .i64 ((scanR salt l).2 : Int)]) ∧ ScS w' w.heap.size v qs ∧ qs.map (·.1) = (scanR salt l).1

set_option maxRecDepth 100000 in
set_option maxHeartbeats 16000000 in
theorem rscan_any (salt : Nat) (A : Option Addr) (n c B : Nat) (l : List UInt8) (w : World) (hsl : salt < 18446744073709551616) (h : Rd w B A n l) (hB : B ≤ w.heap.size) (hn : n ≤ 30786325577728) (hc : n ≤ c) :
    Calls Tryd.prog 16 #[.int .u64 (salt : Int), .slice A n c] w (ScnR salt l w) := by
  have HR := Lib.hid h
  have HBB := Lib.hid hB
  have HN := Lib.hid hn
  have HC := Lib.hid hc
  clear h hB
  go_enter Tryd.func16, Tryd.ntmps16
  go_wp2_with fail
  go_loopw [6, 7] (fun v i wr => ∃ (k : Nat) (qs : List QR), i = .int .i64 (k : Int) ∧ k ≤ n ∧ qs.length * 7 ≤ k ∧ Hid (ScS wr w.heap.size v qs ∧ Below w.heap.size w wr) ∧ Hid (scanR salt l = (qs.map (·.1) ++ (scanR salt (l.drop k)).1, k + (scanR salt (l.drop k)).2)))
    (fun _ i _ => n - (intOf i).toNat)
  case atStart => exact ⟨0, [], rfl, Nat.zero_le _, Nat.le_refl _, ⟨⟨World.ownsRow_nil _ _ _ _, fun q hq => absurd hq (by simp)⟩, Below.refl _ _⟩, by show _ = _; simp⟩
  case round =>
    obtain ⟨k, qs, rfl, hk, hq7, hS, hE⟩ := hrel
    have hr1 : Rd wr B A n l := HR.out.below (hS.out.2.mono HBB.out)
    obtain ⟨A2, c2, cut2, hc2, -, hr2⟩ := cut_l (P := Tryd.prog) 23 5 Tryd.underlying23 size_u8 c hr1 (k : Int) k rfl hk hc
    have CN := Lib.hid (rnext_any salt A2 (n - k) c2 B (l.drop k) wr hsl hr2 (Nat.le_trans HBB.out hS.out.2.size) (by omega) hc2)
    unfold NexR recV at CN
    have hst := scanR_step salt (l.drop k)
    have hok : (nextR salt (l.drop k)).2.2 = 0 → 7 ≤ (nextR salt (l.drop k)).2.1 ∧ (nextR salt (l.drop k)).2.1 ≤ n - k ∧ (nextR salt (l.drop k)).1.dat.length ≤ 8192 := fun h0 => by
      obtain ⟨r, e, hr, hl, -⟩ := next_ok h0
      rw [List.length_drop, HR.out.1] at hl
      rw [e]
      exact ⟨by show 7 ≤ _ + 7; omega, hl, (rokR_iff.1 hr).2.2⟩
    generalize nextR salt (l.drop k) = NX at *
    obtain ⟨⟨ty, dt⟩, sz, er⟩ := NX
    by_cases h0 : er = 0
    · subst h0
      rw [if_pos rfl, List.drop_drop] at hst
      obtain ⟨s1, s2, s3⟩ := hok rfl
      have HST := Lib.hid hst
      have s1' : 7 ≤ sz := s1
      have s2' : sz ≤ n - k := s2
      have H3 : Hid (dt.length ≤ 8192) := s3
      have w7 : IntKind.i64.wrap ((k : Int) + (sz : Int)) = (k : Int) + (sz : Int) := by rw [IntKind.wrap_i64]; omega
      clear hst hok hr1 hr2 hc2 s1 s2 s3
      go_wp2_with fail
      refine CN.out.mono ?_
      rintro e w2 ⟨hb2, A3, n3, c3, rfl, ho3⟩
      have S2 := Lib.hid (hS.out.1.below hb2)
      have B2 := Lib.hid (hS.out.2.trans (hb2.mono hS.out.2.size))
      have O2 := Lib.hid (Ob.wide ho3 hS.out.2.size)
      clear hb2 ho3 CN cut2
      have bW : Below w2.heap.size w2 ((w2.alloc (.cells #[.int .i64 ty, .slice A3 n3 c3] 25)).alloc (.cells #[.int .i64 ty, .slice A3 n3 c3] 25)) := ((Below.refl _ _).alloc (Nat.le_refl _) _).alloc (by simp) _
      have hz : (w2.alloc (.cells #[.int .i64 ty, .slice A3 n3 c3] 25)).heap.size = w2.heap.size + 1 := by simp
      obtain ⟨⟨x0, x1⟩, -, -⟩ := row2 (heap_alloc_new (w2.alloc (.cells #[.int .i64 ty, .slice A3 n3 c3] 25)) (.cells #[.int .i64 ty, .slice A3 n3 c3] 25))
      rw [hz] at x0 x1
      have X0 := Lib.hid x0
      have X1 := Lib.hid x1
      have SX := Lib.hid (S2.out.below bW)
      have OX := Lib.hid (O2.out.below bW)
      have BX := Lib.hid (B2.out.trans (bW.mono B2.out.size))
      have HL7 : Hid (qs.length + 1 ≤ 4398046511104) := by show _ ≤ _; omega
      clear bW hz x0 x1 S2 O2
      go_wp2_with (first
        | (at_builtin; refine wpList_appR rfl (.tmp 24) (.tmp 26) rfl w.heap.size _ qs rfl SX.out (w2.heap.size + 1) 1 (⟨ty, dt⟩, A3, n3, c3) rfl X0.out X1.out HL7.out BX.out.size ⟨OX.out, H3.out⟩ ?_; intro v4 w4 hs4 hb4; have S4 := Lib.hid hs4; have B4 := Lib.hid (BX.out.trans hb4); clear hs4 hb4)
        | fail)
      go_roundw
      case rel =>
        refine ⟨k + sz, qs ++ [(⟨ty, dt⟩, A3, n3, c3)], by go_num, by omega, by rw [List.length_append, List.length_singleton]; omega, ⟨S4.out, B4.out⟩, ?_⟩
        show _ = _
        rw [hE.out, HST.out]
        simp [List.append_assoc, Nat.add_assoc]
      case measure => simp [intOf]; omega
    · have HX : Hid (scanR salt l = (qs.map (·.1), k)) := by
        rw [if_neg h0] at hst
        show _ = _
        rw [hE.out, hst]
        simp
      have e0 : (er != 0) = true := by rw [bne_iff_ne]; exact h0
      have e1 : (er == 0) = false := beq_eq_false_iff_ne.2 h0
      clear hst hok hr1 hr2 hc2 h0
      go_wp2_with fail
      refine CN.out.mono ?_
      rintro e w2 ⟨hb2, A3, n3, c3, rfl, ho3⟩
      have S2 := Lib.hid (hS.out.1.below hb2)
      have B2 := Lib.hid (hS.out.2.trans (hb2.mono hS.out.2.size))
      clear hb2 ho3 CN cut2
      go_wp2_with fail
      exact bodyPost_ret (v := .tuple #[u6, .int .i64 (k : Int)]) (by simp [results, Tryd.results16, go_sem]) rfl ⟨B2.out.alloc B2.out.size _, u6, qs, by rw [HX.out], S2.out.below ((Below.refl _ _).alloc (Nat.le_refl _) _), by rw [HX.out]⟩
end Go.Proofs.YtlkppnghfgiapaaDoor
