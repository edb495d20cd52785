/- What compare of layer 5 returns. -/
import Derived.Test.YtanbjifdcplmnaaGreatDoorTBlkD
import Derived.Test.YtanbjifdcplmnaaGreatDoorTBlkE
import Derived.Test.YtanbjifdcplmnaaGreatDoorTCfBlockTells
import Derived.Test.YtanbjifdcplmnaaGreatDoorTShaE
import Derived.BigQuiet
import Derived.Deep.QuietTactic
namespace Go.Proofs.YtanbjifdcplmnaaGreatDoor
open Go.RowKit

/-- nil, or a fault of that number. -/
def WhyN (z : Int) (w : World) (e : Ending) (w' : World) : Prop := Below w.heap.size w w' ∧ ((z = 0 ∧ e = .returned .nilIface) ∨ (z ≠ 0 ∧ ∃ s, e = .returned (bfl z s)))

theorem below_qN (B : Nat) (w : World) (k : Nat) : Below B w (w.drewN k) := ⟨rfl, rfl, rfl, Nat.le_refl _, fun _ _ => rfl⟩

set_option maxRecDepth 100000 in
set_option maxHeartbeats 4000000 in
theorem compare_any (A A' : Option Addr) (n c n' c' B s : Nat) (u v : List UInt8) (w : World) (h : Rd w B A n u) (hc : n ≤ c) (h' : Rd w B A' n' v) (hc' : n' ≤ c') (hs : s ≤ n') (hn : n ≤ 140737488355328) (hn' : n' ≤ 140737488355328) :
    Calls Tryz.prog 45 #[.slice A n c, .slice A' n' c', .int .i64 (s : Int)] w (WhyN (cmpB u v s) w) := by
  have hl := h.1
  have hl' := h'.1
  by_cases e1 : n = n'
  · subst e1
    obtain ⟨M, hM⟩ : ∃ M, M = n - s := ⟨_, rfl⟩
    have hMn : M ≤ n := by omega
    obtain ⟨D1, d1, k1, -, -, r1⟩ := cut_h (P := Tryz.prog) 22 5 Tryz.underlying22 size_u8 c h ((n : Int) - (s : Int)) M (by omega) hMn hc
    obtain ⟨D2, d2, k2, -, -, r2⟩ := cut_h (P := Tryz.prog) 22 5 Tryz.underlying22 size_u8 c' h' ((n : Int) - (s : Int)) M (by omega) hMn hc'
    obtain ⟨D3, d3, k3, -, -, r3⟩ := cut_l (P := Tryz.prog) 22 5 Tryz.underlying22 size_u8 c h ((n : Int) - (s : Int)) M (by omega) hMn hc
    obtain ⟨D4, d4, k4, -, -, r4⟩ := cut_l (P := Tryz.prog) 22 5 Tryz.underlying22 size_u8 c' h' ((n : Int) - (s : Int)) M (by omega) hMn hc'
    have C1 := Lib.hid (fun W k (hb : Below B w W) => Calls.quiet_of_same (n := k) ((bequal_any D1 D2 M d1 M d2 B _ _ (W.drewN k) (r1.below (hb.trans (below_qN B W k))) (r2.below (hb.trans (below_qN B W k)))).mono (fun _ _ h => ⟨h.1, h.2.symm⟩)))
    have C2 := Lib.hid (fun W k (hb : Below B w W) => Calls.quiet_of_same (n := k) ((bequal_any D3 D4 (n - M) d3 (n - M) d4 B _ _ (W.drewN k) (r3.below (hb.trans (below_qN B W k))) (r4.below (hb.trans (below_qN B W k)))).mono (fun _ _ h => ⟨h.1, h.2.symm⟩)))
    have hcmp : cmpB u v s = if (u.take M == v.take M) = false then 50 else if (u.drop M == v.drop M) = false then 51 else 0 := by
      unfold cmpB
      rw [hl', ← hM]
      by_cases q1 : u.take M = v.take M
      · rw [if_neg (by simp [hl, q1])]
        by_cases q2 : u.drop M = v.drop M
        · rw [if_neg (by simp [q2]), if_neg (by simp [q1]), if_neg (by simp [q2])]
        · rw [if_pos q2, if_neg (by simp [q1]), if_pos (by simpa using q2)]
      · rw [if_pos (.inr q1), if_pos (by simpa using q1)]
    rw [hcmp]
    generalize (u.take M == v.take M) = b1 at *
    generalize (u.drop M == v.drop M) = b2 at *
    have HB := Lib.hid (below_qN w.heap.size w)
    clear hcmp r1 r2 r3 r4 h h' hl hl' hc hc' hM
    cases b1 with
    | false =>
      rw [if_pos rfl]
      have Q1 := Lib.hid (fun k => C1.out w k (Below.refl _ _))
      go_enter Tryz.func45, Tryz.ntmps45
      go_wp2_with fail
      go_quiet (first | (go_at_call 62; exact Q1.out _) | fail)
      go_wp2_with fail
      go_ret
      exact ⟨HB.out _, .inr ⟨by decide, _, rfl⟩⟩
    | true =>
      rw [if_neg (by decide)]
      have Q1 := Lib.hid (fun k => C1.out w k (Below.refl _ _))
      have Q2 := Lib.hid (fun W (hb : Below B w W) k => C2.out W k hb)
      have HQ := Lib.hid (below_qN B w)
      clear C1 C2
      cases b2 with
      | false =>
        rw [if_pos rfl]
        go_enter Tryz.func45, Tryz.ntmps45
        go_wp2_with fail
        go_quiet (first | (go_at_call 62; exact Q1.out _) | fail)
        go_wp2_with fail
        have Q3 := Lib.hid (Q2.out _ (HQ.out nq))
        have HB1 := Lib.hid (HB.out nq)
        generalize w.drewN nq = W1 at *
        go_quiet (first | (go_at_call 62; exact Q3.out _) | fail)
        go_wp2_with fail
        go_ret
        exact ⟨HB1.out.trans (below_qN _ _ _), .inr ⟨by decide, _, rfl⟩⟩
      | true =>
        rw [if_neg (by decide)]
        go_enter Tryz.func45, Tryz.ntmps45
        go_wp2_with fail
        go_quiet (first | (go_at_call 62; exact Q1.out _) | fail)
        go_wp2_with fail
        have Q3 := Lib.hid (Q2.out _ (HQ.out nq))
        have HB1 := Lib.hid (HB.out nq)
        generalize w.drewN nq = W1 at *
        go_quiet (first | (go_at_call 62; exact Q3.out _) | fail)
        go_wp2_with fail
        go_ret
        exact ⟨HB1.out.trans (below_qN _ _ _), .inl ⟨rfl, rfl⟩⟩
  · have hcmp : cmpB u v s = 50 := by unfold cmpB; rw [if_pos (.inl (by rw [hl, hl']; exact e1))]
    rw [hcmp]
    have hne : ((n : Int) == (n' : Int)) = false := by rw [beq_eq_false_iff_ne]; omega
    have hne2 : ¬ (n : Int) = (n' : Int) := by omega
    have HB := Lib.hid (below_qN w.heap.size w)
    clear hcmp h h' hl hl'
    generalize (n' - s : Nat) = M at *
    go_enter Tryz.func45, Tryz.ntmps45
    go_wp2_with fail
    go_quiet (fail)
    go_wp2_with fail
    go_ret
    exact ⟨HB.out _, .inr ⟨by decide, _, rfl⟩⟩
end Go.Proofs.YtanbjifdcplmnaaGreatDoor
/- What uintOf, contents and Hops of layer 5 return. -/
namespace Go.Proofs.YtanbjifdcplmnaaGreatDoor
open Go.RowKit

set_option maxRecDepth 100000 in
set_option maxHeartbeats 1000000 in
theorem uintof_any (k : Int) (n : Nat) (v2 v3 : Value) (R : Bool) (w : World) (_h2 : v2.oneCell' = true) (_h3 : v3.oneCell' = true) (hR : (k == 0) = R) :
    Calls Tryz.prog 34 #[.agg #[.int .i64 k, .int .u64 (n : Int), v2, v3]] w fun e w' => e = .returned (.tuple #[.int .u64 (n : Int), .bool R]) ∧ Below w.heap.size w w' := by
  have HB := Lib.hid ((Below.refl w.heap.size w).alloc (Nat.le_refl _) (.cells #[.int .i64 k, .int .u64 (n : Int), v2, v3] 37))
  go_enter Tryz.func34, Tryz.ntmps34
  go_wp2_with fail
  go_quiet (fail)
  go_wp2_with fail
  go_ret2
  exact ⟨rfl, HB.out.trans (below_qN _ _ _)⟩

/-- The item that all of a block's data are, if it is of a kind. -/
def contB (t k : Nat) (d : List UInt8) : Option Itm := if t = k ∧ (decode d).2.2 = 0 ∧ (decode d).2.1 = (d.length : Int) then some (decode d).1 else none
def ContB (r : Option Itm) (w : World) (e : Ending) (w' : World) : Prop := Below w.heap.size w w' ∧
  ((∃ v x, r = some x ∧ e = .returned (.tuple #[v, .bool true]) ∧ RdI (mask (lows w.heap.size) w') w'.heap.size v x) ∨ (r = none ∧ e = .returned (.tuple #[.agg #[.int .i64 0, .int .u64 0, .slice none 0 0, .slice none 0 0], .bool false])))

set_option maxRecDepth 100000 in
set_option maxHeartbeats 8000000 in
theorem contents_any (t n f k : Nat) (c : Int) (A : Option Addr) (nd cd B : Nat) (d : List UInt8) (w : World) (hB : B ≤ w.heap.size) (h : Rd w B A nd d) (hn : nd ≤ 140737488355328) (hc : nd ≤ cd) (hL : LaidE w) :
    Calls Tryz.prog 33 #[blkV t n f c A nd cd, .int .u64 (k : Int)] w (ContB (contB t k d) w) := by
  have HB0 : Hid (Below w.heap.size w ((w.alloc (.cells #[.int .u64 (t : Int), .int .u64 (n : Int), .int .u64 (f : Int), .int .i64 c, .slice A nd cd] 25)).alloc (.cells #[.int .i64 0, .int .u64 0, .slice none 0 0, .slice none 0 0] 37))) := ((Below.refl _ _).alloc (Nat.le_refl _) _).alloc (le_alloc _ _) _
  have hs0 : ((w.alloc (.cells #[.int .u64 (t : Int), .int .u64 (n : Int), .int .u64 (f : Int), .int .i64 c, .slice A nd cd] 25)).alloc (.cells #[.int .i64 0, .int .u64 0, .slice none 0 0, .slice none 0 0] 37)).heap.size = w.heap.size + 2 := by simp
  have HS0 := Lib.hid hs0
  have HZ := Lib.hid (fun (W' : World) (hb : Below (w.heap.size + 1 + 1) ((w.alloc (.cells #[.int .u64 (t : Int), .int .u64 (n : Int), .int .u64 (f : Int), .int .i64 c, .slice A nd cd] 25)).alloc (.cells #[.int .i64 0, .int .u64 0, .slice none 0 0, .slice none 0 0] 37)) W') => zero4 (w := w.alloc (.cells #[.int .u64 (t : Int), .int .u64 (n : Int), .int .u64 (f : Int), .int .i64 c, .slice A nd cd] 25)) (g := w.heap.size + 1) (by simp) hb)
  have HG := Lib.hid (fun (W' : World) (hb : Below (w.heap.size + 1) ((w.alloc (.cells #[.int .u64 (t : Int), .int .u64 (n : Int), .int .u64 (f : Int), .int .i64 c, .slice A nd cd] 25)).alloc (.cells #[.int .i64 0, .int .u64 0, .slice none 0 0, .slice none 0 0] 37)) W') => box5 (w := w) rfl (((Below.refl (w.heap.size + 1) (w.alloc (.cells #[.int .u64 (t : Int), .int .u64 (n : Int), .int .u64 (f : Int), .int .i64 c, .slice A nd cd] 25))).alloc (by simp) _).trans hb))
  have C1 := Lib.hid (cdecodeL_any A nd cd B d _ (by rw [hs0]; omega) (h.below (HB0.out.mono hB)) hn hc (hL.below HB0.out hL.lt))
  have HD : Hid (contB t k d = if t = k ∧ (decode d).2.2 = 0 ∧ (decode d).2.1 = (d.length : Int) then some (decode d).1 else none) := rfl
  have hdl := h.1
  have hdc := decode_cases d
  clear h hB hn hc hL hs0
  by_cases htk : t = k
  · subst htk
    have htt : ((t : Int) == (t : Int)) = true := by simp
    rcases hdc with ⟨z, hz, hd⟩ | ⟨x, r, hl, hf, hsz, hd⟩
    · have hzn : ¬ z = 0 := by omega
      have hz0 : (z == 0) = false := by simpa using hzn
      have HR : Hid (contB t t d = none) := by show _ = _; rw [HD.out, hd]; exact if_neg (fun h => hzn h.2.1)
      rw [hd] at C1
      clear hd hz hzn HD
      unfold blkV at *
      go_enter Tryz.func33, Tryz.ntmps33
      go_wp2_with fail
      refine C1.out.mono ?_
      rintro e w1 ⟨v, rfl, hv, hb⟩
      obtain ⟨k1, n1, A1, nd1, cd1, AL1, nl1, cl1, rfl⟩ := hv.form
      rw [HS0.out] at hb
      have hbE := hb.alloc (by have := hb.size; rw [HS0.out] at this; exact this) (.cells #[.int .i64 k1, .int .u64 (n1 : Int), .slice A1 nd1 cd1, .slice AL1 nl1 cl1] 37)
      obtain ⟨g0, g1, g2, g3, g4⟩ := HG.out _ (hbE.mono (by omega))
      obtain ⟨⟨z0, z1, z2, z3⟩, f0, f1, f2, f3⟩ := HZ.out _ hbE
      have BE := Lib.hid hbE
      clear hb hbE hv
      go_wp2_with fail
      refine bodyPost_ret (v := .tuple #[.agg #[.int .i64 0, .int .u64 0, .slice none 0 0, .slice none 0 0], .bool false]) (by simp [results, Tryz.results33, go_sem, z0, z1, z2, z3]) rfl ⟨below_set4 (HB0.out.trans (BE.out.mono (by omega))) (Nat.le_succ _), .inr ⟨HR.out, rfl⟩⟩
    · obtain ⟨M, hM⟩ : ∃ M, M = (wri x).length := ⟨_, rfl⟩
      rw [← hM] at hd
      rw [hd] at C1
      by_cases hMn : M = nd
      · subst hMn
        have HR : Hid (contB t t d = some x) := by show _ = _; rw [HD.out, hd]; exact if_pos ⟨rfl, rfl, by rw [hdl]⟩
        clear hd hl hf hsz hM HD hdl
        unfold blkV at *
        go_enter Tryz.func33, Tryz.ntmps33
        go_wp2_with fail
        refine C1.out.mono ?_
        rintro e w1 ⟨v, rfl, hv, hb⟩
        obtain ⟨k1, n1, A1, nd1, cd1, AL1, nl1, cl1, rfl⟩ := hv.form
        rw [HS0.out] at hb hv
        have hw1 : w.heap.size + 2 ≤ w1.heap.size := by have := hb.size; rw [HS0.out] at this; exact this
        have hbE := hb.alloc hw1 (.cells #[.int .i64 k1, .int .u64 (n1 : Int), .slice A1 nd1 cd1, .slice AL1 nl1 cl1] 37)
        obtain ⟨g0, g1, g2, g3, g4⟩ := HG.out _ (hbE.mono (by omega))
        obtain ⟨⟨z0, z1, z2, z3⟩, f0, f1, f2, f3⟩ := HZ.out _ hbE
        have BE := Lib.hid hbE
        have V1 := Lib.hid (hv.grow ((Below.refl w1.heap.size w1).alloc (Nat.le_refl _) (.cells #[.int .i64 k1, .int .u64 (n1 : Int), .slice A1 nd1 cd1, .slice AL1 nl1 cl1] 37)) (Nat.le_refl _))
        have HNE : Hid (¬ w1.heap.size = w.heap.size + 1) := fun h => by omega
        clear hb hbE hv hw1
        go_wp2_with fail
        refine bodyPost_ret (v := .tuple #[.agg #[.int .i64 k1, .int .u64 (n1 : Int), .slice A1 nd1 cd1, .slice AL1 nl1 cl1], .bool true]) (by simp [results, Tryz.results33, go_sem, z0, z1, z2, z3]) rfl ⟨below_set4 (HB0.out.trans (BE.out.mono (by omega))) (Nat.le_succ _), .inl ⟨_, x, HR.out, rfl, ?_⟩⟩
        exact V1.out.put4 (Nat.le_add_right _ 2) (Nat.lt_succ_self _) (Nat.le_of_eq size_put4.symm)
      · have HR : Hid (contB t t d = none) := by show _ = _; rw [HD.out, hd]; exact if_neg (fun h => hMn (by have := h.2.2; rw [hdl] at this; simp only at this; omega))
        have hMi : ((M : Int) == (nd : Int)) = false := by rw [beq_eq_false_iff_ne]; omega
        have hMi2 : ¬ (M : Int) = (nd : Int) := by omega
        clear hd hl hf hsz hM HD hdl
        unfold blkV at *
        go_enter Tryz.func33, Tryz.ntmps33
        go_wp2_with fail
        refine C1.out.mono ?_
        rintro e w1 ⟨v, rfl, hv, hb⟩
        obtain ⟨k1, n1, A1, nd1, cd1, AL1, nl1, cl1, rfl⟩ := hv.form
        rw [HS0.out] at hb
        have hbE := hb.alloc (by have := hb.size; rw [HS0.out] at this; exact this) (.cells #[.int .i64 k1, .int .u64 (n1 : Int), .slice A1 nd1 cd1, .slice AL1 nl1 cl1] 37)
        obtain ⟨g0, g1, g2, g3, g4⟩ := HG.out _ (hbE.mono (by omega))
        obtain ⟨⟨z0, z1, z2, z3⟩, f0, f1, f2, f3⟩ := HZ.out _ hbE
        have BE := Lib.hid hbE
        clear hb hbE hv
        go_wp2_with fail
        refine bodyPost_ret (v := .tuple #[.agg #[.int .i64 0, .int .u64 0, .slice none 0 0, .slice none 0 0], .bool false]) (by simp [results, Tryz.results33, go_sem, z0, z1, z2, z3]) rfl ⟨below_set4 (HB0.out.trans (BE.out.mono (by omega))) (Nat.le_succ _), .inr ⟨HR.out, rfl⟩⟩
  · have HR : Hid (contB t k d = none) := by show _ = _; rw [HD.out]; exact if_neg (fun h => htk h.1)
    have htt : ((t : Int) == (k : Int)) = false := by rw [beq_eq_false_iff_ne]; omega
    have htt2 : ¬ (t : Int) = (k : Int) := by omega
    obtain ⟨⟨z0, z1, z2, z3⟩, f0, f1, f2, f3⟩ := HZ.out _ (Below.refl _ _)
    clear hdc HD hdl C1
    unfold blkV at *
    go_enter Tryz.func33, Tryz.ntmps33
    go_wp2_with fail
    refine bodyPost_ret (v := .tuple #[.agg #[.int .i64 0, .int .u64 0, .slice none 0 0, .slice none 0 0], .bool false]) (by simp [results, Tryz.results33, go_sem, z0, z1, z2, z3]) rfl ⟨?_, .inr ⟨HR.out, rfl⟩⟩
    first | exact HB0.out | exact below_set4 HB0.out (Nat.le_succ _)
end Go.Proofs.YtanbjifdcplmnaaGreatDoor
