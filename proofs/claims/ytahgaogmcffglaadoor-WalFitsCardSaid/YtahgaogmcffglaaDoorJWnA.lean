/- The code's log: what Append and Reset leave, said plainly; Open that is refused. -/
import Derived.Test.YtahgaogmcffglaaDoorJWlG
import Derived.Test.YtahgaogmcffglaaDoorJWmC
namespace Go.Proofs.YtahgaogmcffglaaDoor
open Go.RowKit

theorem len_sumL7 : ∀ l : List Rcd, 7 * l.length ≤ sumL l
  | [] => Nat.zero_le _
  | r :: l => by
    have e : sumL (r :: l) = (r.dat.length + 7) + sumL l := by simp [sumL]
    have := len_sumL7 l
    rw [e, List.length_cons]
    omega
/-- What is left of a change of a log from records L0 to L1. -/
def ChgO (z l0 : Int) (a n t0 len0 : Nat) (L0 : List Rcd) (t1 len1 : Nat) (L1 : List Rcd) (Z : List (List UInt8)) (w : World) (F : Nat → Prop) (B g gd : Nat) (e : Ending) (w' : World) : Prop :=
  (z ≠ 0 ∧ e = .returned (.int .i64 z) ∧ Below w.heap.size w w') ∨
  (z = 0 ∧ ∃ Fd' Fw', (∀ k, Fd' k → ¬ Fw' k) ∧ Fr F w w' ∧ Grew w F (fun k => Fd' k ∨ Fw' k) ∧
    ((∃ Z' lf, (l0 = -1 → lf = -1) ∧ e = .returned (.int .i64 0) ∧ CDk w' Fd' B gd ⟨Z', [], true, lf⟩ ∧ WlK w' Fw' B g gd ⟨a, n, t1, len1, L1, false⟩ ∧ InZ a n Z' t1 len1 L1 ∧ OutZ a n Z Z') ∨
     (l0 ≠ -1 ∧ ∃ S ws lf, e = .returned (.int .i64 131) ∧ CDk w' Fd' B gd ⟨S, ws, false, lf⟩ ∧ WlK w' Fw' B g gd ⟨0, 0, 0, 0, [], true⟩ ∧ ws.length ≤ 1000000 ∧ ∀ ks, (InZ a n (tornW S ws ks) t0 len0 L0 ∨ InZ a n (tornW S ws ks) t1 len1 L1) ∧ OutZ a n Z (tornW S ws ks))))
theorem chg_out {z l0 : Int} {a n t0 len0 t c0 : Nat} {L0 Lo l : List Rcd} {Z : List (List UInt8)} {w w' : World} {F : Nat → Prop} {B g gd : Nat} {e : Ending} (h : ChgR z Z l0 a n t c0 Lo l w F B g gd e w')
    (hI : InZ a n Z t0 len0 L0) (hN : Nxt t0 len0 L0 t c0 Lo) (hw : ∀ s ∈ Z, s.length = 64) (hn : 1 ≤ n) (hn2 : n ≤ 65536) (hin : a + n ≤ Z.length) (hZ : Z.length ≤ 65536) (ht : t < 18446744073709551616) (hz : z = 0 → c0 + sumL l ≤ hlf n * 64 ∧ ∀ r ∈ l, rokR r = true) : ChgO z l0 a n t0 len0 L0 t (c0 + sumL l) (Lo ++ l) Z w F B g gd e w' := by
  rcases h with ⟨h1, h2, h3⟩ | ⟨h1, r, Fd', Fw', h2, h3, h4, h5, h6, h7, h8⟩
  · exact .inl ⟨h1, h2, h3⟩
  · obtain ⟨hf, hok⟩ := hz h1
    have hbl := layB_len (t := t) hw hn hin hf
    have hwl : ∀ S ws lf, r = (⟨S, ws, false, lf⟩, 131) → ws.length ≤ 1000000 := fun S ws lf e => by
      have hsb : sumL l ≤ 4194304 := by have := hlf_two hn; omega
      rcases h2 with ⟨-, j, l2, rfl⟩ | ⟨l2, -, rfl⟩ | ⟨-, j, l2, rfl⟩
      · injection e with e1 _
        injection e1 with _ e2 _ _
        rw [← e2, List.length_take, chunks_len, hbl]
        unfold secN
        omega
      · injection e with _ e2
        exact absurd e2 (by decide)
      · injection e with e1 _
        injection e1 with _ e2 _ _
        rw [← e2, List.length_take, chunks_len, hdF_len]
        unfold secN
        omega
    refine .inr ⟨h1, Fd', Fw', h5, h6, h7, ?_⟩
    rcases laid_of h2 hI hN hw hn hn2 hin hf hok ht with ⟨Z', lf, hl, rfl, hi, ho⟩ | ⟨hl, S, ws, lf, rfl, hk⟩
    · exact .inl ⟨Z', lf, hl, h8, h3, by simpa using h4, hi, ho⟩
    · exact .inr ⟨hl, S, ws, lf, h8, h3, by simpa using h4, hwl S ws lf rfl, hk⟩
theorem live_of {a n t len : Nat} {L : List Rcd} {Z : List (List UInt8)} (hI : InZ a n Z t len L) (hn : 1 ≤ n) (hin : a + n ≤ Z.length) (hZ : Z.length ≤ 65536) : Live Z ⟨a, n, t, len, L, false⟩ :=
  ⟨rfl, hn, hin, hI.fit, hI.tn, by
    have h1 := len_sumL7 L
    have h2 := hlf_two hn
    have h3 := hI.fit
    rw [← hI.lenL] at h1
    show L.length ≤ _
    omega⟩
/-- The turn of the next record. -/
def turnN (t len : Nat) : Nat := if len = 0 then (t + 1) % 18446744073709551616 else t
theorem turnN_lt {t len : Nat} (h : t < 18446744073709551616) : turnN t len < 18446744073709551616 := by
  unfold turnN
  split
  · exact Nat.mod_lt _ (by decide)
  · exact h
theorem par_next (t : Nat) : (t + 1) % 18446744073709551616 % 2 ≠ t % 2 := by omega
theorem wAppendO_any (X : Snt14) (w : World) {Fd Fw : Nat → Prop} {B gd g : Nat} {Z : List (List UInt8)} {lf : Int} {a n t len : Nat} {L : List Rcd} (A : Option Addr) (m c : Nat) (r : Rcd)
    (hA : ∀ W, Below B w W → Lds14 X W) (hBw : B ≤ w.heap.size) (hd : CDk w Fd B gd ⟨Z, [], true, lf⟩) (hw : WlK w Fw B g gd ⟨a, n, t, len, L, false⟩) (hdis : ∀ k, Fd k → ¬ Fw k) (hI : InZ a n Z t len L) (hn : 1 ≤ n) (hin : a + n ≤ Z.length)
    (hr : ∀ W, Fr (fun k => Fd k ∨ Fw k) w W → Rd W w.heap.size A m r.dat) (hc : m ≤ c) (hm : m ≤ 140737488355328) :
    Calls Tryd.prog 17 #[.pointer (some ⟨g, 0, none⟩), recV r.typ A m c] w (ChgO (fitZ [r] (((hlf n * 64 : Nat) : Int) - (len : Int))) lf a n t len L (turnN t len) (len + (r.dat.length + 7)) (L ++ [r]) Z w (fun k => Fd k ∨ Fw k) B g gd) := by
  have hZ : Z.length ≤ 65536 := hd.few
  have hn2 : n ≤ 65536 := by omega
  refine (wAppend_any X w A m c r hA hBw hd hw hdis (live_of hI hn hin hZ) hr hc hm).mono ?_
  intro e w' h
  have hs : sumL [r] = r.dat.length + 7 := by simp [sumL]
  have h2 := chg_out h hI (t0 := t) (len0 := len) (L0 := L) (by
    by_cases h0 : len = 0
    · refine .inr ⟨?_, h0, sumL_none (by rw [← hI.lenL]; exact h0)⟩
      show (if len = 0 then (t + 1) % 18446744073709551616 else t) % 2 ≠ _
      rw [if_pos h0]
      exact par_next t
    · refine .inl ⟨?_, rfl, rfl⟩
      show (if len = 0 then (t + 1) % 18446744073709551616 else t) = _
      rw [if_neg h0]) hd.wide hn hn2 hin hZ (turnN_lt hI.tn) (fun hz => by
    obtain ⟨h3, h4⟩ := fitZ_zero hz
    have h5 : Ws.room ⟨a, n, t, len, L, false⟩ = ((hlf n * 64 : Nat) : Int) - (len : Int) := rfl
    rw [h5] at h4
    exact ⟨by show len + sumL [r] ≤ hlf n * 64; omega, h3⟩)
  rw [hs] at h2
  exact h2
theorem wResetO_any (X : Snt14) (w : World) {Fd Fw : Nat → Prop} {B gd g : Nat} {Z : List (List UInt8)} {lf : Int} {a n t len : Nat} {L : List Rcd} (A : Option Addr) (m c : Nat) (l : List Rcd)
    (hA : ∀ W, Below B w W → Lds14 X W) (hBw : B ≤ w.heap.size) (hd : CDk w Fd B gd ⟨Z, [], true, lf⟩) (hw : WlK w Fw B g gd ⟨a, n, t, len, L, false⟩) (hdis : ∀ k, Fd k → ¬ Fw k) (hI : InZ a n Z t len L) (hn : 1 ≤ n) (hin : a + n ≤ Z.length)
    (hr : ∀ W, Fr (fun k => Fd k ∨ Fw k) w W → RwC W w.heap.size A m l) (hm : m ≤ 1099511627776) :
    Calls Tryd.prog 19 #[.pointer (some ⟨g, 0, none⟩), .slice A m c] w (ChgO (fitZ l ((hlf n * 64 : Nat) : Int)) lf a n t len L ((t + 1) % 18446744073709551616) (sumL l) l Z w (fun k => Fd k ∨ Fw k) B g gd) := by
  have hZ : Z.length ≤ 65536 := hd.few
  have hn2 : n ≤ 65536 := by omega
  refine (wReset_any X w A m c l hA hBw hd hw hdis (live_of hI hn hin hZ) hr hm).mono ?_
  intro e w' h
  have h2 := chg_out h hI (t0 := t) (len0 := len) (L0 := L) (.inr ⟨par_next t, rfl, rfl⟩) hd.wide hn hn2 hin hZ (Nat.mod_lt _ (by decide)) (fun hz => by
    obtain ⟨h3, h4⟩ := fitZ_zero hz
    exact ⟨by show 0 + sumL l ≤ hlf n * 64; have h5 : (sumL l : Int) ≤ ((hlf n * 64 : Nat) : Int) := h4; omega, h3⟩)
  rw [Nat.zero_add, List.nil_append] at h2
  exact h2
theorem recV_zero : recV 0 none 0 0 = .agg #[.int .i64 0, .slice none 0 0] := rfl
set_option maxRecDepth 100000 in
set_option maxHeartbeats 4000000 in
/-- Open of more sectors than there are. -/
theorem wOpen_nine (w : World) {Fd : Nat → Prop} {B gd : Nat} {D : Cd} (hd : CDk w Fd B gd D) (h8 : D.secs.length = 8) :
    Calls Tryd.prog 21 #[.pointer (some ⟨gd, 0, none⟩), .int .i64 0, .int .i64 9] w fun e w' => e = .returned (.tuple #[.pointer none, .slice none 0 0, .int .i64 2]) ∧ w = w' := by
  have C1 := csectors_any w hd
  rw [h8] at C1
  have C1 := Lib.hid C1
  clear hd h8
  go_enter Tryd.func21, Tryd.ntmps21
  go_wp2_with (first
    | (go_at_call 44; refine C1.out.mono ?_; rintro e wx ⟨rfl, rfl⟩)
    | fail)
  exact bodyPost_ret (results_tmp3 Tryd.results21 _ _ _) rfl ⟨rfl, rfl⟩
set_option maxRecDepth 100000 in
set_option maxHeartbeats 4000000 in
/-- Open over no disk. -/
theorem wOpen_none (w : World) (a n : Int) (hn : (Lit.int .i64 n).wf = true) :
    Calls Tryd.prog 21 #[.pointer none, .int .i64 a, .int .i64 n] w fun e w' => e = .returned (.tuple #[.pointer none, .slice none 0 0, .int .i64 2]) ∧ w = w' := by
  have C1 := Lib.hid (nsectors_any w (p := none) (.inl rfl))
  have hn2 : -9223372036854775808 ≤ n ∧ n ≤ 9223372036854775807 := by simpa [Lit.wf, IntKind.min, IntKind.max, IntKind.signed, IntKind.bits] using hn
  by_cases h1 : n < 4
  · clear hn hn2
    go_enter Tryd.func21, Tryd.ntmps21
    go_wp2_with fail
    exact bodyPost_ret (results_tmp3 Tryd.results21 _ _ _) rfl ⟨rfl, rfl⟩
  by_cases h2 : a < 0
  · clear hn hn2
    go_enter Tryd.func21, Tryd.ntmps21
    go_wp2_with fail
    exact bodyPost_ret (results_tmp3 Tryd.results21 _ _ _) rfl ⟨rfl, rfl⟩
  have w1 : IntKind.i64.wrap (0 - n) = -n := by rw [IntKind.wrap_i64]; omega
  have w2 : IntKind.i64.wrap (-n) = -n := by rw [IntKind.wrap_i64]; omega
  have h3 : -n < a := by omega
  clear hn hn2
  go_enter Tryd.func21, Tryd.ntmps21
  go_wp2_with (first
    | (go_at_call 44; refine C1.out.mono ?_; rintro e wx ⟨rfl, rfl⟩)
    | fail)
  exact bodyPost_ret (results_tmp3 Tryd.results21 _ _ _) rfl ⟨rfl, rfl⟩
end Go.Proofs.YtahgaogmcffglaaDoor
