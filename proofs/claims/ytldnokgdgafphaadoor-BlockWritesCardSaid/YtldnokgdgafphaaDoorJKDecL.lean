/- Decode of layer 3, its item read in no block that was there. -/
import Derived.Test.YtldnokgdgafphaaDoorJKDec2
namespace Go.Proofs.YtldnokgdgafphaaDoor
open Go.RowKit

def GivesDL (x : Itm) (n e : Int) (w : World) (en : Ending) (w' : World) : Prop := ∃ v, en = .returned (.tuple #[v, .int .i64 n, .int .i64 e]) ∧ RdI (mask (lows w.heap.size) w') w'.heap.size v x ∧ Below w.heap.size w w'
theorem RdI.maskd {S : Nat → Bool} {W : World} {B : Nat} {v : Value} {x : Itm} (h : RdI (mask S W) B v x) : RdI (mask S W.drew) B v x := RdI.keep (w := mask S W) (w' := mask S W.drew) (fun _ _ => rfl) h

set_option maxRecDepth 100000 in
set_option maxHeartbeats 4000000 in
theorem cdecodeL_any (A : Option Addr) (n c B : Nat) (l : List UInt8) (w : World) (hB : B ≤ w.heap.size) (h : Rd w B A n l) (hn : n ≤ 140737488355328) (hc : n ≤ c) (hL : LaidE w) :
    Calls Tryd.prog 31 #[.slice A n c] w (GivesDL (decode l).1 (decode l).2.1 (decode l).2.2 w) := by
  have hst : RSt ((w.alloc (.cells #[.int .i64 0, .int .u64 0, .slice none 0 0, .slice none 0 0] 41)).alloc (.cells #[.slice A n c, .int .i64 0, .int .i64 0, .int .i64 0] 98)) (w.heap.size + 1) A n c l 0 0 0 :=
    ⟨by simp, by simp, by simp, by simp, by simp, by simp, by simp, ((h.alloc hB _).alloc (Nat.le_trans hB (le_alloc _ _)) _).more (by omega), Nat.zero_le _, hn, hc⟩
  have C1 := Lib.hid (item_all 8 _ _ _ _ _ _ _ _ _ (by rfl) (Nat.zero_le _) hst)
  obtain ⟨r, hr⟩ : ∃ r, r = dec 8 0 (l.drop 0) := ⟨_, rfl⟩
  rw [← hr] at C1
  have HR := Lib.hid hr
  have hlen := h.1
  have HL := Lib.hid hL
  clear hst h hr
  have hgl : 0 < w.heap.size := hL.lt
  clear hL
  rcases r with z | ⟨x, p', l'⟩
  · have hd : decode l = (.zero, 0, z) := by
      unfold decode
      have := HR.out
      rw [List.drop_zero] at this
      rw [← this]
    rw [hd]
    clear hd
    have HC : Hid (Calls Tryd.prog 53 #[.pointer (some ⟨w.heap.size + 1, 0, none⟩)] ((w.alloc (.cells #[.int .i64 0, .int .u64 0, .slice none 0 0, .slice none 0 0] 41)).alloc (.cells #[.slice A n c, .int .i64 0, .int .i64 0, .int .i64 0] 98)) fun e w' =>
      e = .returned (.tuple #[.agg #[.int .i64 0, .int .u64 0, .slice none 0 0, .slice none 0 0], .iface 104 (.agg #[.int .i64 z])]) ∧ Only (w.heap.size + 1) ((w.alloc (.cells #[.int .i64 0, .int .u64 0, .slice none 0 0, .slice none 0 0] 41)).alloc (.cells #[.slice A n c, .int .i64 0, .int .i64 0, .int .i64 0] 98)) w') := C1
    clear C1
    go_enter Tryd.func31, Tryd.ntmps31
    go_wp2_with fail
    refine HC.out.mono ?_
    rintro e w1 ⟨rfl, ho⟩
    have hb1 := (ho.below (by simp)).mono (B' := w.heap.size + 1) (Nat.le_refl _)
    have hb2 : Below (w.heap.size + 1) (w.alloc (.cells #[.int .i64 0, .int .u64 0, .slice none 0 0, .slice none 0 0] 41)) (w1.alloc (.cells #[.int .i64 0, .int .u64 0, .slice none 0 0, .slice none 0 0] 41)) :=
      (((Below.refl _ _).alloc (by simp) _).trans hb1).alloc (by have := hb1.size; simp at this; omega) _
    have hbw : Below w.heap.size w (w1.alloc (.cells #[.int .i64 0, .int .u64 0, .slice none 0 0, .slice none 0 0] 41)) := ((Below.refl _ _).alloc (Nat.le_refl _) _).trans (hb2.mono (Nat.le_succ _))
    have C2 := Lib.hid (number_any z _ (HL.out.below hbw hgl))
    have HB2 := Lib.hid hb2
    have HBW := Lib.hid hbw
    clear ho hb1 hb2 hbw
    go_wp2_with fail
    refine C2.out.mono ?_
    rintro e w3 ⟨rfl, hb3⟩
    have hb4 := HB2.out.trans (hb3.mono (by have := HB2.out.size; simpa using this))
    obtain ⟨⟨z0, z1, z2, z3⟩, f0, f1, f2, f3⟩ := zero_cells hb4
    have HB4 := Lib.hid (((Below.refl w.heap.size w).alloc (Nat.le_refl _) _).trans (hb4.mono (Nat.le_succ _)))
    clear hb3 hb4
    go_wp2_with fail
    refine bodyPost_ret (v := .tuple #[noItem, .int .i64 0, .int .i64 z]) (by simp [results, Tryd.results31, go_sem, z0, z1, z2, z3, noItem]) rfl ⟨_, rfl, RdI.mk_uint (by decide), set4_below HB4.out (Nat.le_refl _)⟩
  · have hd : decode l = (x, ((l.length - l'.length : Nat) : Int), 0) := by
      unfold decode
      have := HR.out
      rw [List.drop_zero] at this
      rw [← this]
    rw [hd]
    clear hd
    obtain ⟨M, hM⟩ : ∃ M, M = l.length - l'.length := ⟨_, rfl⟩
    rw [← hM]
    have HM := Lib.hid hM
    clear hM
    go_enter Tryd.func31, Tryd.ntmps31
    go_wp2_with fail
    refine C1.out.mono ?_
    rintro e w1 ⟨v, i1, rfl, hv, hs1, hl1, ho⟩
    obtain ⟨k1, n1, A1, nd1, cd1, AL1, nl1, cl1, rfl⟩ := hv.form
    have hb1 := (ho.below (by simp)).mono (B' := w.heap.size + 1) (Nat.le_refl _)
    have hsz1 : w.heap.size + 2 ≤ w1.heap.size := by have := ho.size; simpa using this
    have hb2 : Below (w.heap.size + 1) (w.alloc (.cells #[.int .i64 0, .int .u64 0, .slice none 0 0, .slice none 0 0] 41)) (w1.alloc (.cells #[.int .i64 k1, .int .u64 (n1 : Int), .slice A1 nd1 cd1, .slice AL1 nl1 cl1] 41)) :=
      (((Below.refl _ _).alloc (by simp) _).trans hb1).alloc (by omega) _
    obtain ⟨⟨z0, z1, z2, z3⟩, f0, f1, f2, f3⟩ := zero_cells hb2
    have HBW := Lib.hid (((Below.refl w.heap.size w).alloc (Nat.le_refl _) (.cells #[.int .i64 0, .int .u64 0, .slice none 0 0, .slice none 0 0] 41)).trans (hb2.mono (Nat.le_succ _)))
    have r1 := (hs1.alloc (.cells #[.int .i64 k1, .int .u64 (n1 : Int), .slice A1 nd1 cd1, .slice AL1 nl1 cl1] 41)).c1
    have HV := Lib.hid (hv.mask_go (S' := lows (w.heap.size + 2)) (w' := w1.alloc (.cells #[.int .i64 k1, .int .u64 (n1 : Int), .slice A1 nd1 cd1, .slice AL1 nl1 cl1] 41)) (B' := w1.heap.size + 1) (Nat.le_succ _) (fun k hk _ => Below.heap_alloc _ _ _ hk) (fun k _ hk => by have := lows_f.1 hk; simp at this; exact lows_f.2 this))
    have hi1 : M = i1 := by
      have := hs1.hi
      rw [HM.out, ← hl1, List.length_drop]
      omega
    have HI1 := Lib.hid hi1
    have HSZ := Lib.hid hsz1
    clear hv hs1 hl1 ho hb1 hb2 hi1 hsz1
    go_wp2_with fail
    go_region
    go_wp2_with fail
    have hv2 := (HV.out.fin (b := w.heap.size) (lo' := w.heap.size) (u0 := .int .i64 k1) (u1 := .int .u64 (n1 : Int)) (u2 := .slice A1 nd1 cd1) (u3 := .slice AL1 nl1 cl1) (by simp) (by omega) (by omega))
    have hv3 := RdI.maskd hv2
    rw [HI1.out]
    refine bodyPost_ret (v := .tuple #[.agg #[.int .i64 k1, .int .u64 (n1 : Int), .slice A1 nd1 cd1, .slice AL1 nl1 cl1], .int .i64 (i1 : Int), .int .i64 0]) (by simp [results, Tryd.results31, go_sem, z0, z1, z2, z3]) rfl ⟨_, rfl, hv3, (set4_below HBW.out (Nat.le_refl _)).drew⟩
end Go.Proofs.YtldnokgdgafphaaDoor
