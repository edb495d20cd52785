/- The code's log: Append, Reset. (Made by gen/WcJ.py.) -/
import Derived.Test.YtahgaogmcffglaaDoorJWcI
namespace Go.Proofs.YtahgaogmcffglaaDoor
open Go.RowKit

theorem KeepR.from_ {Z : List (List UInt8)} {l0 : Int} {a n t c0 : Nat} {Lo l : List Rcd} {w wk w' : World} {F : Nat → Prop} {B g gd : Nat} {e : Ending} (h : KeepR Z l0 a n t c0 Lo l wk F B g gd e w') (hb : Below w.heap.size w wk) : KeepR Z l0 a n t c0 Lo l w F B g gd e w' := by
  obtain ⟨r, Fd', Fw', h1, h2, h3, h4, h5, h6, h7⟩ := h
  exact ⟨r, Fd', Fw', h1, h2, h3, h4, (Fr.of_below hb : Fr F w wk).trans h5 (Grew.refl _ _), (Grew.refl w F).trans h6 hb.size, h7⟩
/-- What Append and Reset leave: nothing is changed, or keep's. -/
def ChgR (z : Int) (Z : List (List UInt8)) (l0 : Int) (a n t c0 : Nat) (Lo l : List Rcd) (w : World) (F : Nat → Prop) (B g gd : Nat) (e : Ending) (w' : World) : Prop :=
  (z ≠ 0 ∧ e = .returned (.int .i64 z) ∧ Below w.heap.size w w') ∨ (z = 0 ∧ KeepR Z l0 a n t c0 Lo l w F B g gd e w')
/-- The turn in which a record more is kept. -/
def Ws.turn (S : Ws) : Nat := if S.len = 0 then (S.t + 1) % 18446744073709551616 else S.t
theorem fitZ_zero {l : List Rcd} {room : Int} (h : fitZ l room = 0) : (∀ r ∈ l, rokR r = true) ∧ (sumL l : Int) ≤ room := by
  unfold fitZ at h
  by_cases h1 : l.all rokR = true
  · rw [if_pos h1] at h
    by_cases h2 : room < (sumL l : Int)
    · rw [if_pos h2] at h
      exact absurd h (by decide)
    · exact ⟨List.all_eq_true.1 h1, by omega⟩
  · rw [if_neg h1] at h
    exact absurd h (by decide)
/-- A log that stands upon a disk on which nothing waits. -/
structure Live (Z : List (List UInt8)) (S : Ws) : Prop where
  live : S.dead = false
  n1 : 1 ≤ S.n
  inn : S.a + S.n ≤ Z.length
  fit : S.len ≤ hlf S.n * 64
  tn : S.t < 18446744073709551616
  few : S.L.length ≤ 1000000
set_option maxRecDepth 100000 in
set_option maxHeartbeats 16000000 in
theorem wReset_any (X : Snt14) (w : World) {Fd Fw : Nat → Prop} {B gd g : Nat} {Z : List (List UInt8)} {lf : Int} {S : Ws} (A : Option Addr) (m c : Nat) (l : List Rcd)
    (hA : ∀ W, Below B w W → Lds14 X W) (hBw : B ≤ w.heap.size) (hd : CDk w Fd B gd ⟨Z, [], true, lf⟩) (hw : WlK w Fw B g gd S) (hdis : ∀ k, Fd k → ¬ Fw k) (hS : Live Z S)
    (hr : ∀ W, Fr (fun k => Fd k ∨ Fw k) w W → RwC W w.heap.size A m l) (hm : m ≤ 1099511627776) :
    Calls Tryd.prog 19 #[.pointer (some ⟨g, 0, none⟩), .slice A m c] w (ChgR (fitZ l ((hlf S.n * 64 : Nat) : Int)) Z lf S.a S.n ((S.t + 1) % 18446744073709551616) 0 [] l w (fun k => Fd k ∨ Fw k) B g gd) := by
  have hZ : Z.length ≤ 65536 := hd.few
  have hn2 : S.n ≤ 65536 := by have := hS.inn; omega
  have hU : S.run = 0 := by simp [Ws.run, hS.live]
  have C1 := wruns_any w hw
  rw [hU] at C1
  have C1 := Lib.hid C1
  have hrw := hr w (Fr.refl _ _)
  have CR := Lib.hid (fun W => wroom_any S.a S.n W hS.n1 (Nat.le_trans hn2 (by decide)))
  have CF := Lib.hid (fun W (hW : Below w.heap.size w W) => wfits_any X A m c w.heap.size l ((hlf S.n * 64 : Nat) : Int) W (hA W (hW.mono hBw)) ⟨hrw.1, fun h0 => by
    obtain ⟨b, o, e, hb, hx⟩ := hrw.2 h0
    exact ⟨b, o, e, hb, hx.below hb hW⟩⟩ hW.size hm)
  have CN := Lib.hid (fun W => wnext_any S.t S.len W)
  have KW : Hid (∀ W, Below w.heap.size w W → W.cell? ⟨g, 1, none⟩ = some (.int .i64 (S.a : Int)) ∧ W.cell? ⟨g, 2, none⟩ = some (.int .i64 (S.n : Int)) ∧ W.cell? ⟨g, 3, none⟩ = some (.int .u64 (S.t : Int)) ∧ W.cell? ⟨g, 4, none⟩ = some (.int .i64 (S.len : Int))) := fun W hW => by
    obtain ⟨-, -, ⟨-, d1, d2, d3, d4, -, -⟩, -, -, -⟩ := (hw.below hW).cells
    exact ⟨d1, d2, d3, d4⟩
  obtain ⟨zf, hzf⟩ : ∃ zf, zf = fitZ l ((hlf S.n * 64 : Nat) : Int) := ⟨_, rfl⟩
  have CK : Hid (zf = 0 → ∀ W, Below w.heap.size w W → Calls Tryd.prog 42 #[.pointer (some ⟨g, 0, none⟩), hdV ((S.t + 1) % 18446744073709551616) 0, .slice none 0 0, .slice A m c] W (KeepR Z lf S.a S.n ((S.t + 1) % 18446744073709551616) 0 [] l W (fun k => Fd k ∨ Fw k) B g gd)) := fun hz W hW => by
    obtain ⟨h1, h2⟩ := fitZ_zero (hzf.symm.trans hz)
    exact wkeep_any X W _ 0 (.slice none 0 0) [] [] A m c l (fun W' hW' => hA W' ((hW.mono hBw).trans hW')) (Nat.le_trans hBw hW.size) (hd.below hW) (hw.below hW) hdis ⟨World.ownsRow_nil _ _ _ _, fun q hq => absurd hq (by simp)⟩ rfl (fun k hk => by
      rcases hk with hk | ⟨q, hq, -⟩
      · cases hk
      · exact absurd hq (by simp)) (fun W' hW' => by
      have h3 := hr W' ((Fr.of_below hW).trans hW' (Grew.refl _ _))
      exact ⟨h3.1, fun h0 => by
        obtain ⟨b, o, e, hb, hx⟩ := h3.2 h0
        exact ⟨b, o, e, Nat.lt_of_lt_of_le hb hW.size, hx.more hW.size⟩⟩) hS.live h1 (Nat.mod_lt _ (by decide)) hS.n1 hS.inn (by omega) (Nat.zero_le _)
  rw [← hzf]
  rw [← hzf] at CF
  obtain ⟨rm, hrm⟩ : ∃ rm, rm = hlf S.n * 64 := ⟨_, rfl⟩
  rw [← hrm] at CR CF
  obtain ⟨k1, k2, k3, k4⟩ := KW.out w (Below.refl _ _)
  clear hA hBw hd hw hdis hS hr hm hZ hn2 hU hrw hzf hrm
  unfold plV hdV at *
  by_cases hz : zf = 0
  case neg =>
    have hz1 : (zf != 0) = true := by rw [bne_iff_ne]; exact hz
    have HZ := Lib.hid hz
    clear hz
    go_enter Tryd.func19, Tryd.ntmps19
    go_wp2_with fail
    refine C1.out.mono ?_
    rintro e w1 ⟨rfl, rfl⟩
    go_wp2_with (first
      | (go_at_call 39; refine (CR.out _).mono ?_; rintro e w2 ⟨rfl, hb2⟩; have B2 := Lib.hid hb2; clear hb2 k1 k2 k3 k4)
      | (go_at_call 40; refine (CF.out _ B2.out).mono ?_; rintro e w3 ⟨rfl, hb3⟩; have B3 := Lib.hid (B2.out.trans (hb3.mono B2.out.size)); clear hb3)
      | fail)
    go_ret
    exact .inl ⟨HZ.out, rfl, B3.out⟩
  have hz1 : (zf != 0) = false := by rw [hz]; rfl
  have HZ := Lib.hid hz
  have CK2 := Lib.hid (CK.out hz)
  clear hz CK
  go_enter Tryd.func19, Tryd.ntmps19
  go_wp2_with fail
  refine C1.out.mono ?_
  rintro e w1 ⟨rfl, rfl⟩
  go_wp2_with (first
    | (go_at_call 39; refine (CR.out _).mono ?_; rintro e w2 ⟨rfl, hb2⟩; have B2 := Lib.hid hb2; clear hb2 k1 k2 k3 k4)
    | (go_at_call 40; refine (CF.out _ B2.out).mono ?_; rintro e w3 ⟨rfl, hb3⟩; have B3 := Lib.hid (B2.out.trans (hb3.mono B2.out.size)); clear hb3; obtain ⟨k1, k2, k3, k4⟩ := KW.out w3 B3.out)
    | (go_at_call 41; refine (CN.out _).mono ?_; rintro e w4 ⟨rfl, hb4⟩; have B4 := Lib.hid (B3.out.trans (hb4.mono B3.out.size)); clear hb4 k1 k2 k3 k4)
    | (go_at_call 42; refine (CK2.out _ B4.out).mono ?_; rintro e w5 hk5; have HK5 := Lib.hid (hk5.from_ B4.out); obtain ⟨r5, -, -, -, -, -, -, -, -, rfl⟩ := hk5)
    | fail)
  go_ret
  exact .inr ⟨HZ.out, HK5.out⟩
end Go.Proofs.YtahgaogmcffglaaDoor
