/- Layer 15's law: a log that is played; begin. -/
import Derived.Test.YtahgaogmcffglaaDoorJWlG
import Derived.Test.YtahgaogmcffglaaDoorJWnB
import Derived.StillTailTactics
import Derived.Lib.SmallJoins
import Derived.ChangeArms
import Derived.WalkKit
import Derived.ProofKit
import Derived.OpenShut
import Derived.ShutString
import Derived.ChangeOld
import Derived.Below
import Derived.SizedLaws
import Derived.Deep.DeepHandedRow
namespace Go.Proofs.YtahgaogmcffglaaDoor
open Go.RowKit

/-- A row of records that reads as K, whatever is done to blocks of N. -/
def KpR (w : World) (N : Nat → Prop) (vk : Value) (K : List Rcd) : Prop := ∃ A c, vk = .slice A K.length c ∧ K.length ≤ c ∧ ∀ W, Fr N w W → RwC W w.heap.size A K.length K
theorem KpR.go {w w1 : World} {N N' : Nat → Prop} {vk : Value} {K : List Rcd} (h : KpR w N vk K) (hf : Fr N w w1) (hg : Grew w N N') : KpR w1 N' vk K := by
  obtain ⟨A, c, h1, h2, h3⟩ := h
  exact ⟨A, c, h1, h2, fun W hW => (h3 W (hf.trans hW hg)).moreB hf.size⟩
theorem KpR.below {w w1 : World} {N : Nat → Prop} {vk : Value} {K : List Rcd} (h : KpR w N vk K) (hb : Below w.heap.size w w1) : KpR w1 N vk K := h.go (Fr.of_below hb) (Grew.refl _ _)
theorem KpR.fewer {w : World} {N N' : Nat → Prop} {vk : Value} {K : List Rcd} (h : KpR w N vk K) (hN : ∀ k, N' k → N k) : KpR w N' vk K := by
  obtain ⟨A, c, h1, h2, h3⟩ := h
  exact ⟨A, c, h1, h2, fun W hW => h3 W (hW.wide hN)⟩
theorem KpR.nil_ (w : World) (N : Nat → Prop) : KpR w N (.slice none 0 0) [] := ⟨none, 0, rfl, Nat.le_refl _, fun _ _ => ⟨rfl, fun h => absurd h (Nat.lt_irrefl 0)⟩⟩
/-- A row of one's own that lies in no block of N. -/
theorem KpR.of {w : World} {N : Nat → Prop} {B : Nat} {v : Value} {qs : List QR} (h : ScS w B v qs) (hN : ∀ k, FtR v qs k → ¬ N k) : KpR w N v (qs.map (·.1)) := by
  obtain ⟨A, c, rfl, hc, -⟩ := h.rw
  have hl : (qs.map (·.1)).length = qs.length := List.length_map _
  refine ⟨A, c, by rw [hl], by rw [hl]; exact hc, fun W hW => ?_⟩
  have h2 : ScS W B (.slice A qs.length c) qs := h.same (fun b hb => hW.block b (h.own_ge (.inl hb)).2 (hN b (.inl hb))) (fun q hq b hb => hW.block b (h.own_ge (.inr ⟨q, hq, hb⟩)).2 (hN b (.inr ⟨q, hq, hb⟩)))
  obtain ⟨A', c', e, -, hr⟩ := h2.rw
  injection e with e1 e2 e3
  subst e1
  rw [hl]
  refine ⟨hl, fun h0 => ?_⟩
  obtain ⟨b, o, eb, hb, hx⟩ := hr.2 h0
  have hb2 : b < w.heap.size := by
    subst eb
    exact (h.own_ge (.inl rfl)).2
  refine ⟨b, o, eb, hb2, fun i r hi => ?_⟩
  obtain ⟨Ad, nd, cd, k1, k2, k3, k4, k5⟩ := hx i r hi
  refine ⟨Ad, nd, cd, k1, k2, k3, k4, k5.1, fun h1 => ?_⟩
  obtain ⟨b2, o2, e2, hb3, hc2⟩ := k5.2 h1
  refine ⟨b2, o2, e2, ?_, hc2⟩
  rw [List.getElem?_map] at hi
  obtain ⟨q, hq, hqr⟩ := Option.map_eq_some_iff.1 hi
  obtain ⟨f1, f2⟩ := flatQ_at qs i q hq
  have g2 := World.ownsRow.cells h2.1 (g := b) (by rw [eb]; rfl) _ _ f2
  rw [add_mk14] at g2
  subst eb
  have ho : o = 0 := by
    rcases h.1.2 with ⟨hv, -⟩ | ⟨gg, cap, cur, hv, -⟩
    · injection hv with x1 _ _
      exact absurd x1 (by simp)
    · injection hv with x1 _ _
      injection x1 with x2
      injection x2 with _ x3 _
  subst ho
  rw [Nat.zero_add] at k2 g2
  have e5 := k2.symm.trans g2
  injection e5 with e6
  injection e6 with e7 e8 e9
  have hmem := List.mem_of_getElem? hq
  have := (h.2 q hmem).1.own_ge (k := b2) (by
    rw [← e7, e2]
    rfl)
  exact this.2
/-- A log that is played, and stands: its disk has power, nothing waits, and what is kept is what its sectors say. -/
def Ply (w0 w : World) (gp a n : Nat) (Z : List (List UInt8)) (lf : Int) (t len : Nat) (K : List Rcd) (N : Nat → Prop) : Prop :=
  ∃ gd gw Fd Fw vk, Below w0.heap.size w0 w ∧ CDk w Fd w0.heap.size gd ⟨Z, [], true, lf⟩ ∧ WlK w Fw w0.heap.size gw gd ⟨a, n, t, len, K, false⟩ ∧ (∀ k, Fd k → ¬ Fw k) ∧
    w.heap[gp]? = some (.cells #[.pointer (some ⟨gd, 0, none⟩), .pointer (some ⟨gw, 0, none⟩), .int .i64 (a : Int), .int .i64 (n : Int), vk, .bool true] 31 (0, 0)) ∧
    w0.heap.size ≤ gp ∧ ¬ Fd gp ∧ ¬ Fw gp ∧ KpR w N vk K ∧ InZ a n Z t len K ∧ a + n ≤ Z.length ∧ 4 ≤ n ∧ (∀ k, Fd k ∨ Fw k ∨ k = gp → N k) ∧ ∀ k, N k → w0.heap.size ≤ k ∧ k < w.heap.size
theorem Ply.below {w0 w w1 : World} {gp a n : Nat} {Z : List (List UInt8)} {lf : Int} {t len : Nat} {K : List Rcd} {N : Nat → Prop} (h : Ply w0 w gp a n Z lf t len K N) (hb : Below w.heap.size w w1) : Ply w0 w1 gp a n Z lf t len K N := by
  obtain ⟨gd, gw, Fd, Fw, vk, h1, h2, h3, h4, h5, h6, h7, h8, h9, h10, h11, h12, h13, h14⟩ := h
  exact ⟨gd, gw, Fd, Fw, vk, h1.trans (hb.mono h1.size), h2.below hb, h3.below hb, h4, (hb.block gp (Array.getElem?_eq_some_iff.1 h5).1).trans h5, h6, h7, h8, h9.below hb, h10, h11, h12, h13, fun k hk => ⟨(h14 k hk).1, Nat.lt_of_lt_of_le (h14 k hk).2 hb.size⟩⟩
set_option maxRecDepth 100000 in
set_option maxHeartbeats 8000000 in
theorem begin_any (X : Snt14) (a n : Nat) (w : World) (hA : ∀ W, Below w.heap.size w W → Lds14 X W) (ha : a ≤ 20) (hn : 4 ≤ n) (hn2 : n ≤ 60) :
    Calls Tryd.prog 9 #[.int .i64 (a : Int), .int .i64 (n : Int)] w fun e w' => ∃ gp N, e = .returned (.pointer (some ⟨gp, 0, none⟩)) ∧ Ply w w' gp a n (List.replicate (a + n + 2) z64) (-1) 0 0 [] N := by
  have HA := Lib.hid hA
  obtain ⟨N, hN⟩ : ∃ N, N = a + n + 2 := ⟨_, rfl⟩
  have w1 : IntKind.i64.wrap ((a : Int) + (n : Int)) = (a : Int) + (n : Int) := by rw [IntKind.wrap_i64]; omega
  have w2 : IntKind.i64.wrap ((a : Int) + (n : Int) + 2) = (N : Int) := by rw [IntKind.wrap_i64]; omega
  have CN := Lib.hid (cnew_any (N : Int) w)
  have CL := Lib.hid (fun W => rleast_any n W (by omega))
  have HNN : Hid (a + n + 2 = N) := hN.symm
  have HN4 : Hid (4 ≤ n ∧ n ≤ 60 ∧ a ≤ 20) := ⟨hn, hn2, ha⟩
  rw [← hN]
  clear hA ha hn hn2 hN
  go_enter Tryd.func9, Tryd.ntmps9
  go_wp2_with fail
  refine CN.out.mono ?_
  rintro e w3 h3
  rcases h3 with ⟨-, -, Fd, gd, rfl, hd3, hb3⟩ | ⟨h3, -, -⟩
  case inr => exact absurd ⟨by have := HN4.out; have := HNN.out; omega, by have := HN4.out; have := HNN.out; omega⟩ h3
  rw [Int.toNat_natCast] at hd3
  have D3 := Lib.hid hd3
  have B3 := Lib.hid hb3
  have CO := Lib.hid (wOpen_any X w3 (B := w.heap.size) a n 0 0 [] (fun W hW => HA.out W (hb3.trans hW)) hb3.size hd3 HN4.out.1 (by rw [List.length_replicate]; have := HNN.out; omega) (inz_noughts a n N (by have := HNN.out; omega)))
  clear hd3 hb3
  go_wp2_with fail
  refine CO.out.mono ?_
  rintro e w4 ⟨hb4, gw, v4, q4, Fw, mid, rfl, hw4, hf4, hm4, hs4, hq4⟩
  have hq0 : q4 = [] := by simpa using hq4
  subst hq0
  obtain ⟨A4, c4, rfl, -, -⟩ := hs4.rw
  have W4 := Lib.hid hw4
  have B4 := Lib.hid hb4
  have HFW := Lib.hid hf4
  have CM := wRoom_any w4 hw4 (fun _ => ⟨by show 1 ≤ n; have := HN4.out; omega, by show n ≤ 65536; have := HN4.out; omega, Nat.zero_le _⟩)
  have hrm : Ws.room ⟨a, n, 0, 0, [], false⟩ = ((hlf n * 64 : Nat) : Int) := by
    show ((hlf n * 64 : Nat) : Int) - ((0 : Nat) : Int) = _
    omega
  rw [hrm] at CM
  have CM := Lib.hid CM
  obtain ⟨rm, hrm2⟩ : ∃ rm, rm = hlf n * 64 := ⟨_, rfl⟩
  obtain ⟨ls, hls⟩ : ∃ ls : Int, ls = 64 * ((n / 2 : Nat) : Int) - 128 := ⟨_, rfl⟩
  have hlt : ¬ (rm : Int) < ls := by rw [hrm2, hls]; unfold hlf; have := HN4.out; omega
  rw [← hrm2] at CM
  rw [← hls] at CL
  clear hb4 hw4 hf4 hs4 hq4 hrm hrm2 hls
  go_wp2_with (first
    | (go_at_call 16; refine CM.out.mono ?_; rintro e w5 ⟨rfl, hb5⟩; have B5 := Lib.hid hb5; clear hb5)
    | (go_at_call 20; refine (CL.out _).mono ?_; rintro e wx ⟨rfl, rfl⟩)
    | fail)
  go_ret
  have hb6 : Below w5.heap.size w5 (w5.alloc (.cells #[.pointer (some ⟨gd, 0, none⟩), .pointer (some ⟨gw, 0, none⟩), .int .i64 (a : Int), .int .i64 (n : Int), .slice none 0 0, .bool true] 31)) := (Below.refl _ _).alloc (Nat.le_refl _) _
  have hb46 := B5.out.trans (hb6.mono B5.out.size)
  refine ⟨w5.heap.size, fun k => Fd k ∨ Fw k ∨ k = w5.heap.size, rfl, gd, gw, Fd, Fw, .slice none 0 0, B3.out.trans ((B4.out.trans (hb46.mono B4.out.size)).mono B3.out.size), (D3.out.below B4.out).below hb46, W4.out.below hb46, fun k h1 h2 => ?_, heap_alloc_new w5 _, Nat.le_trans B3.out.size (Nat.le_trans B4.out.size B5.out.size), fun h => ?_, fun h => ?_, KpR.nil_ _ _, inz_noughts a n N (by have := HNN.out; omega), by rw [List.length_replicate]; have := HNN.out; omega, HN4.out.1, fun k h => h, fun k hk => ?_⟩
  · have := (D3.out.fit k h1).2
    have := (HFW.out k h2).1
    omega
  · have h2 := (D3.out.fit _ h).2
    have := B4.out.size
    have := B5.out.size
    omega
  · have h2 := (W4.out.fit _ h).2
    have := B5.out.size
    omega
  · have s1 := B3.out.size
    have s2 := B4.out.size
    have s3 := B5.out.size
    have s4 : w5.heap.size + 1 = (w5.alloc (.cells #[.pointer (some ⟨gd, 0, none⟩), .pointer (some ⟨gw, 0, none⟩), .int .i64 (a : Int), .int .i64 (n : Int), .slice none 0 0, .bool true] 31)).heap.size := by simp
    rcases hk with hk | hk | rfl
    · have := D3.out.fit k hk; omega
    · have := W4.out.fit k hk; omega
    · omega
end Go.Proofs.YtahgaogmcffglaaDoor
/- Layer 15's law: WalFits. -/
namespace Go.Proofs.YtahgaogmcffglaaDoor
open Go.RowKit

/-- A log that is played, whatever its row of records is. -/
def Pfz (w0 w : World) (gp a n : Nat) (Z : List (List UInt8)) (lf : Int) (t len : Nat) (L : List Rcd) : Prop :=
  ∃ gd gw Fd Fw vk, Below w0.heap.size w0 w ∧ CDk w Fd w0.heap.size gd ⟨Z, [], true, lf⟩ ∧ WlK w Fw w0.heap.size gw gd ⟨a, n, t, len, L, false⟩ ∧ (∀ k, Fd k → ¬ Fw k) ∧
    w.heap[gp]? = some (.cells #[.pointer (some ⟨gd, 0, none⟩), .pointer (some ⟨gw, 0, none⟩), .int .i64 (a : Int), .int .i64 (n : Int), vk, .bool true] 31 (0, 0)) ∧
    w0.heap.size ≤ gp ∧ ¬ Fd gp ∧ ¬ Fw gp ∧ InZ a n Z t len L ∧ a + n ≤ Z.length ∧ 4 ≤ n
theorem Ply.fz {w0 w : World} {gp a n : Nat} {Z : List (List UInt8)} {lf : Int} {t len : Nat} {K : List Rcd} {N : Nat → Prop} (h : Ply w0 w gp a n Z lf t len K N) : Pfz w0 w gp a n Z lf t len K := by
  obtain ⟨gd, gw, Fd, Fw, vk, h1, h2, h3, h4, h5, h6, h7, h8, h9, h10, h11, h12, -, -⟩ := h
  exact ⟨gd, gw, Fd, Fw, vk, h1, h2, h3, h4, h5, h6, h7, h8, h10, h11, h12⟩
theorem Grew.not {w : World} {F F' : Nat → Prop} (h : Grew w F F') {k : Nat} (hk : k < w.heap.size) (hn : ¬ F k) : ¬ F' k := fun h2 => by
  rcases h k h2 with h3 | h3
  · exact hn h3
  · omega
set_option maxRecDepth 100000 in
set_option maxHeartbeats 16000000 in
theorem walFits_walk (n0 : Int) (A : Option Addr) (m c : Nat) (xs : List Int) (w : World) (X : Snt14) (wn : (Lit.int .i64 n0).wf = true) (hx : Rz15 w A m xs ∧ m ≤ c ∧ ∀ x ∈ xs, (Lit.int .i64 x).wf = true) (hA : Lds14 X w) :
    Calls Tryd.prog 5 #[.int .i64 n0, .slice A m c] w fun e w' => e = .returned (.bool true) ∧ Below w.heap.size w w' := by
  have LA : Hid (∀ W, Below w.heap.size w W → Lds14 X W) := fun W hW => hA.below hW (Nat.le_refl _)
  have HH := Lib.hid (fun W (hW : Below w.heap.size w W) => heads15_any X W (fun W' hW' => LA.out W' (hW.trans (hW'.mono hW.size))))
  have HX := Lib.hid hx.1
  have HXW := Lib.hid hx.2.2
  clear hx hA
  by_cases h1 : n0 < 4
  · clear wn
    go_enter Tryd.func5, Tryd.ntmps5
    go_wp2_with (first
      | (go_at_call 8; refine (HH.out w (Below.refl _ _)).mono ?_; rintro e w9 ⟨rfl, hb9⟩; have B9 := Lib.hid hb9; clear hb9)
      | fail)
    go_ret
    exact ⟨rfl, B9.out⟩
  by_cases h2 : 60 < n0
  · clear wn
    go_enter Tryd.func5, Tryd.ntmps5
    go_wp2_with (first
      | (go_at_call 8; refine (HH.out w (Below.refl _ _)).mono ?_; rintro e w9 ⟨rfl, hb9⟩; have B9 := Lib.hid hb9; clear hb9)
      | fail)
    go_ret
    exact ⟨rfl, B9.out⟩
  by_cases h3 : 100 < m
  · have h3i : (100 : Int) < (m : Int) := by omega
    clear wn
    go_enter Tryd.func5, Tryd.ntmps5
    go_wp2_with (first
      | (go_at_call 8; refine (HH.out w (Below.refl _ _)).mono ?_; rintro e w9 ⟨rfl, hb9⟩; have B9 := Lib.hid hb9; clear hb9)
      | fail)
    go_ret
    exact ⟨rfl, B9.out⟩
  obtain ⟨n, rfl⟩ : ∃ n : Nat, n0 = (n : Int) := ⟨n0.toNat, by omega⟩
  have h3i : ¬ (100 : Int) < (m : Int) := by omega
  have hn4 : 4 ≤ n := by omega
  have hn60 : n ≤ 60 := by omega
  have HN : Hid (4 ≤ n ∧ n ≤ 60 ∧ m ≤ 100) := ⟨hn4, hn60, by omega⟩
  have CB := begin_any X 0 n w LA.out (by decide) hn4 hn60
  have CB := Lib.hid (show Calls Tryd.prog 9 #[.int .i64 0, .int .i64 (n : Int)] w (fun e w' => ∃ gp N, e = .returned (.pointer (some ⟨gp, 0, none⟩)) ∧ Ply w w' gp 0 n (List.replicate (0 + n + 2) z64) (-1) 0 0 [] N) from CB)
  have CLS := Lib.hid (fun W => rleast_any n W (by omega))
  obtain ⟨rm, hrm⟩ : ∃ rm, rm = hlf n * 64 := ⟨_, rfl⟩
  obtain ⟨ls, hls⟩ : ∃ ls : Int, ls = 64 * ((n / 2 : Nat) : Int) - 128 := ⟨_, rfl⟩
  have HRL : Hid (ls ≤ (rm : Int) ∧ rm ≤ 4194304) := by show _ ∧ _; rw [hrm, hls]; unfold hlf; omega
  have HRM := Lib.hid hrm
  rw [← hls] at CLS
  clear wn hrm hls hn4 hn60
  go_enter Tryd.func5, Tryd.ntmps5
  go_wp2_with fail
  refine CB.out.mono ?_
  rintro e w1 ⟨gp, NN, rfl, hp⟩
  have HP := Lib.hid hp.fz
  clear hp
  go_upto_region 7 with fail
  go_loopw [6, 7, 8, 9] (fun v6 v7 v8 v9 wr => ∃ i : Nat, i ≤ m ∧ v6 = .int .i64 (i : Int) ∧ Hid (∃ Z t len L, Pfz w wr gp 0 n Z (-1) t len L)) (fun v6 _ _ _ _ => m - (intOf v6).toNat)
  case atStart => exact ⟨0, Nat.zero_le _, rfl, _, _, _, _, HP.out⟩
  case round =>
    obtain ⟨i, hi, rfl, HZ⟩ := hrel
    by_cases hlt : i < m
    · have HI : (i : Int) < (m : Int) := by omega
      obtain ⟨Z, t, len, L, gd, gw, Fd, Fw, vk, hb, hd, hw, hdis, hrow, hgp, hnd, hnw, hIz, hin, -⟩ := HZ.out
      obtain ⟨b, o, rfl, hcell⟩ := HX.out.2 (by omega)
      have hil : i < xs.length := by have := HX.out.1; omega
      obtain ⟨x, hxe⟩ : ∃ x, x = xs[i] := ⟨_, rfl⟩
      have hxi : xs[i]? = some x := by rw [hxe]; exact List.getElem?_eq_getElem hil
      have x0 : wr.cell? ⟨b, o + i, none⟩ = some (.int .i64 x) := (hb.cell (World.block_lt_of_cell? w _ (hcell i x hxi))).trans (hcell i x hxi)
      obtain ⟨U, hU⟩ : ∃ U : Nat, x % 18446744073709551616 = (U : Int) := ⟨(x % 18446744073709551616).toNat, by omega⟩
      have hU2 : IntKind.u64.wrap x = (U : Int) := by rw [IntKind.wrap_u64]; exact hU
      have hUb : U < 18446744073709551616 := by omega
      obtain ⟨k, hk⟩ : ∃ k, k = U % 400 := ⟨_, rfl⟩
      have hk4 : k < 400 := by omega
      have e1 : (U : Int).tmod 400 = (k : Int) := by rw [Int.tmod_eq_emod_of_nonneg (by omega)]; omega
      have e2 : (U : Int) % 400 = (k : Int) := by omega
      have eA : (IntKind.u64.wrap x).tmod 400 = (k : Int) := by rw [hU2]; exact e1
      have e5 := w64_small k (by omega)
      have HK := Lib.hid hk4
      have HB := Lib.hid hb
      have HD := Lib.hid hd
      have HW := Lib.hid hw
      have HDI := Lib.hid hdis
      have HRW := Lib.hid hrow
      have HNP := Lib.hid (And.intro hgp (And.intro hnd hnw))
      have HIZ := Lib.hid hIz
      have HIN := Lib.hid hin
      clear hb hd hw hdis hrow hgp hnd hnw hIz hin hcell hil hxe hxi hk hk4 hUb hU hU2 e1 e2
      go_upto_region 10 with (first
        | (refine wpList_makeB13 rfl _ _ 33 rfl 5 Tryd.underlying33 info_u8 k k (wrap64 (k : Int)) (wrap64 (k : Int)) rfl rfl e5 e5 (Nat.le_refl _) (by have := HK.out; omega) ?_; intro w2 ho2 hb2; have O2 := Lib.hid ho2; have B2 := Lib.hid hb2; clear ho2 hb2)
        | fail)
      obtain ⟨w3, hw3⟩ : ∃ w3, w3 = w2.alloc (.cells #[.int .i64 1, .slice (some ⟨wr.heap.size, 0, none⟩) k k] 35) := ⟨_, rfl⟩
      rw [← hw3]
      have B3 : Hid (Below wr.heap.size wr w3) := by show Below _ _ _; rw [hw3]; exact B2.out.alloc B2.out.size _
      have R3 : Hid (w3.heap[w2.heap.size]? = some (.cells #[.int .i64 1, .slice (some ⟨wr.heap.size, 0, none⟩) k k] 35 (0, 0))) := by show _ = _; rw [hw3]; exact heap_alloc_new w2 _
      have S3 : Hid (wr.heap.size < w2.heap.size ∧ w2.heap.size < w3.heap.size) := by
        refine ⟨?_, by rw [hw3]; simp⟩
        exact (O2.out.own_ge rfl).2
      have O3 : Hid (Ob w3 wr.heap.size 5 (.slice (some ⟨wr.heap.size, 0, none⟩) k k) (List.replicate k 0)) := by show Ob _ _ _ _ _; rw [hw3]; exact O2.out.alloc _
      obtain ⟨rr, hrr⟩ : ∃ rr : Rcd, rr = ⟨1, List.replicate k 0⟩ := ⟨_, rfl⟩
      have hrd : rr.dat.length = k := by rw [hrr]; simp
      have hrok : rokR rr = true := by rw [rokR_iff, hrr]; exact ⟨by show (1 : Int) ≤ 1; decide, by show (1 : Int) ≤ 255; decide, by show (List.replicate k 0).length ≤ _; rw [List.length_replicate]; have := HK.out; omega⟩
      have HRK := Lib.hid hrok
      have HRD := Lib.hid hrd
      have HRR := Lib.hid hrr
      have KX : Hid (∀ W, Below w3.heap.size w3 W → (W.cell? ⟨w2.heap.size, 0, none⟩ = some (.int .i64 1) ∧ W.cell? ⟨w2.heap.size, 1, none⟩ = some (.slice (some ⟨wr.heap.size, 0, none⟩) k k)) ∧ W.cell? ⟨gp, 1, none⟩ = some (.pointer (some ⟨gw, 0, none⟩))) := fun W hW => by
        refine ⟨(row2 ((hW.block _ S3.out.2).trans R3.out)).1, ?_⟩
        have hl := (Array.getElem?_eq_some_iff.1 HRW.out).1
        rw [cell_of_row W gp _ _ _ _ ((hW.block gp (Nat.lt_of_lt_of_le hl B3.out.size)).trans ((B3.out.block gp hl).trans HRW.out))]
        rfl
      have HNF : Hid (∀ j, wr.heap.size ≤ j → ¬ (Fd j ∨ Fw j)) := fun j hj h => by
        rcases h with h | h
        · exact HD.out.at_wide hj h
        · have := (HW.out.fit j h).2; omega
      have CM := Lib.hid (wRoom_any w3 (HW.out.below B3.out) (fun _ => ⟨by show 1 ≤ n; have := HN.out; omega, by show n ≤ 65536; have := HN.out; omega, HIZ.out.fit⟩))
      have hroom : Ws.room ⟨0, n, t, len, L, false⟩ = (rm : Int) - (len : Int) := by rw [HRM.out]; rfl
      rw [hroom] at CM
      have HB3 : Hid (Below w.heap.size w w3) := HB.out.trans (B3.out.mono HB.out.size)
      have CAp := fun W (hW : Below w3.heap.size w3 W) => wAppendO_any X W (B := w.heap.size) (gd := gd) (g := gw) (some ⟨wr.heap.size, 0, none⟩) k k rr (fun W' hW' => LA.out W' (HB3.out.trans ((hW.mono HB3.out.size).trans hW'))) (Nat.le_trans HB3.out.size hW.size) ((HD.out.below B3.out).below hW) ((HW.out.below B3.out).below hW) HDI.out HIZ.out (by have := HN.out; omega) HIN.out (fun W' hW' => by
        have ho : Ob W' wr.heap.size 5 (.slice (some ⟨wr.heap.size, 0, none⟩) k k) (List.replicate k 0) := (O3.out.below hW).same fun bb hbb => by
          obtain rfl : wr.heap.size = bb := by simpa [Value.ownBlock] using hbb
          exact hW'.block _ (Nat.lt_of_lt_of_le (Nat.lt_trans S3.out.1 S3.out.2) hW.size) (HNF.out _ (Nat.le_refl _))
        rw [HRR.out]
        refine ⟨by simp, fun h0 => ?_⟩
        obtain ⟨b1, o1, e1, -, h5⟩ := ho.rd_.2.1.2 h0
        refine ⟨b1, o1, e1, ?_, h5⟩
        injection e1 with e2
        injection e2 with e3 _
        rw [← e3]
        exact Nat.lt_of_lt_of_le (Nat.lt_trans S3.out.1 S3.out.2) hW.size) (Nat.le_refl _) (by have := HK.out; omega)
      have hty : rr.typ = 1 := by rw [hrr]
      rw [hty] at CAp
      unfold recV at CAp
      rw [← HRM.out] at CAp
      have CAp := Lib.hid CAp
      have CSZ := Lib.hid (fun W => rsize_any 1 (some ⟨wr.heap.size, 0, none⟩) k k (List.replicate k 0) W (by simp) (by have := HK.out; omega))
      rw [← hrr, hrok, if_pos rfl] at CSZ
      unfold recV at CSZ
      obtain ⟨rl, hrl⟩ : ∃ rl : Int, rl = (rm : Int) - (len : Int) := ⟨_, rfl⟩
      rw [← hrl] at CM CAp
      have HRLI := Lib.hid hrl
      have hlenb : len ≤ rm := by rw [HRM.out]; exact HIZ.out.fit
      have HLB := Lib.hid hlenb
      obtain ⟨⟨r0, r1⟩, g1⟩ := KX.out w3 (Below.refl _ _)
      clear x0 eA e5 hw3 hrr hrd hrok hroom hty hrl hlenb
      go_upto_region 11 with (first
        | (go_at_call 16; refine CM.out.mono ?_; rintro e w4 ⟨rfl, hb4⟩; have B4 := Lib.hid hb4; clear hb4)
        | fail)
      have hfz : fitZ [rr] rl = if rl < (k : Int) + 7 then 150 else 0 := by
        rw [fitZ_ok rl (fun q hq => by obtain rfl := List.mem_singleton.1 hq; exact HRK.out)]
        have e : ((sumL [rr] : Nat) : Int) = (k : Int) + 7 := by
          have e2 : sumL [rr] = k + 7 := by simp [sumL, HRD.out]
          rw [e2]; rfl
        rw [e]
      have B4d : Hid (Below w3.heap.size w3 w4.drew) := B4.out.trans (Below.refl w3.heap.size w4).drew
      have CA4 := CAp.out w4.drew B4d.out
      rw [hfz] at CA4
      obtain ⟨⟨y0, y1⟩, y2⟩ := KX.out w4 B4.out
      have y0d : w4.drew.cell? ⟨w2.heap.size, 0, none⟩ = some (.int .i64 1) := y0
      have y1d : w4.drew.cell? ⟨w2.heap.size, 1, none⟩ = some (.slice (some ⟨wr.heap.size, 0, none⟩) k k) := y1
      have y2d : w4.drew.cell? ⟨gp, 1, none⟩ = some (.pointer (some ⟨gw, 0, none⟩)) := y2
      clear hfz r0 r1 g1
      go_wp2_with fail
      refine wp_region_still_tail 5 (by kernel_rfl) (by kernel_rfl) ?_
      simp only [List.take_succ_cons, List.take_zero, List.drop_succ_cons, List.drop_zero]
      repeat still_step
      refine wpStill_nil ?_
      change wpList _ _ _ _ _ w4.drew
      clear y0 y1 y2 y0d y1d y2d
      obtain ⟨wd, hwd⟩ : ∃ wd, wd = w4.drew := ⟨_, rfl⟩
      rw [← hwd] at CA4 B4d
      rw [← hwd]
      clear hwd
      have HB3d : Hid (Below w.heap.size w wd) := HB3.out.trans (B4d.out.mono HB3.out.size)
      have gpl : gp < wr.heap.size := (Array.getElem?_eq_some_iff.1 HRW.out).1
      have HGP := Lib.hid gpl
      have RWd : Hid (wd.heap[gp]? = some (.cells #[.pointer (some ⟨gd, 0, none⟩), .pointer (some ⟨gw, 0, none⟩), .int .i64 ((0 : Nat) : Int), .int .i64 (n : Int), vk, .bool true] 31 (0, 0))) := (B4d.out.block gp (Nat.lt_of_lt_of_le gpl B3.out.size)).trans ((B3.out.block gp gpl).trans HRW.out)
      have D4 := Lib.hid ((HD.out.below B3.out).below B4d.out)
      have W4 := Lib.hid ((HW.out.below B3.out).below B4d.out)
      have w9 : IntKind.i64.wrap ((i : Int) + 1) = (i : Int) + 1 := by rw [IntKind.wrap_i64]; have := HN.out; omega
      have hsl : w2.heap.size < wd.heap.size := Nat.lt_of_lt_of_le S3.out.2 B4d.out.size
      have HSL := Lib.hid hsl
      have Rb : Hid (wd.heap[w2.heap.size]? = some (.cells #[.int .i64 1, .slice (some ⟨wr.heap.size, 0, none⟩) k k] 35 (0, 0))) := (B4d.out.block _ S3.out.2).trans R3.out
      clear gpl hsl
      by_cases hf : rl < (k : Int) + 7
      · rw [if_pos hf] at CA4
        have CA5 := Lib.hid CA4
        clear CA4
        go_wp2_with fail
        refine CA5.out.mono ?_
        rintro e w5 h5
        rcases h5 with ⟨-, rfl, hb5⟩ | ⟨h5, -⟩
        case inr => exact absurd h5 (by decide)
        have B5 := Lib.hid hb5
        have hf2 : ¬ (k : Int) + 7 ≤ rl := by omega
        have HB5 : Hid (Below w.heap.size w w5) := HB3d.out.trans (hb5.mono HB3d.out.size)
        have KY : Hid (∀ W, Below w5.heap.size w5 W → (W.cell? ⟨w2.heap.size, 0, none⟩ = some (.int .i64 1) ∧ W.cell? ⟨w2.heap.size, 1, none⟩ = some (.slice (some ⟨wr.heap.size, 0, none⟩) k k)) ∧ W.cell? ⟨gp, 1, none⟩ = some (.pointer (some ⟨gw, 0, none⟩))) := fun W hW => by
          have hW2 : Below wd.heap.size wd W := B5.out.trans (hW.mono B5.out.size)
          refine ⟨(row2 ((hW2.block _ HSL.out).trans Rb.out)).1, ?_⟩
          rw [cell_of_row W gp _ _ _ _ ((hW2.block gp (Array.getElem?_eq_some_iff.1 RWd.out).1).trans RWd.out)]
          rfl
        obtain ⟨⟨y0, y1⟩, y2⟩ := KY.out w5 (Below.refl _ _)
        have CR := fun W (hW : Below w5.heap.size w5 W) => wResetO_any X W (B := w.heap.size) (gd := gd) (g := gw) none 0 0 [] (fun W' hW' => LA.out W' (HB5.out.trans ((hW.mono HB5.out.size).trans hW'))) (Nat.le_trans HB5.out.size hW.size) ((D4.out.below B5.out).below hW) ((W4.out.below B5.out).below hW) HDI.out HIZ.out (by have := HN.out; omega) HIN.out (fun W' hW' => ⟨rfl, fun h => absurd h (Nat.lt_irrefl 0)⟩) (Nat.zero_le _)
        have hz0 : fitZ [] ((hlf n * 64 : Nat) : Int) = 0 := by
          rw [fitZ_ok _ (fun q hq => absurd hq (by simp)), if_neg (by show ¬ ((hlf n * 64 : Nat) : Int) < ((0 : Nat) : Int); omega)]
        rw [hz0] at CR
        have CR := Lib.hid CR
        clear hb5 hz0
        go_upto_region 14 with (first
          | (go_at_call 18; refine (CSZ.out _).mono ?_; rintro e w6 ⟨rfl, hb6⟩; have B6 := Lib.hid hb6; clear hb6 y0 y1 y2; obtain ⟨-, y2⟩ := KY.out w6 B6.out)
          | fail)
        go_wp2_with fail
        refine (CR.out _ B6.out).mono ?_
        rintro e w7 h7
        rcases h7 with ⟨h7, -, -⟩ | ⟨-, Fd7, Fw7, hdis7, hfr7, hgr7, h7⟩
        · exact absurd rfl h7
        rcases h7 with ⟨Z7, l7, hl7, rfl, hd7, hw7, hI7, hO7⟩ | ⟨h7, -⟩
        case inr => exact absurd rfl h7
        obtain rfl := hl7 rfl
        have hgp6 : gp < w6.heap.size := Nat.lt_of_lt_of_le (Array.getElem?_eq_some_iff.1 RWd.out).1 (Nat.le_trans B5.out.size B6.out.size)
        have RW7 : Hid (w7.heap[gp]? = some (.cells #[.pointer (some ⟨gd, 0, none⟩), .pointer (some ⟨gw, 0, none⟩), .int .i64 ((0 : Nat) : Int), .int .i64 (n : Int), vk, .bool true] 31 (0, 0))) := (hfr7.block gp hgp6 (fun h => h.elim HNP.out.2.1 HNP.out.2.2)).trans ((B6.out.block gp (Nat.lt_of_lt_of_le (Array.getElem?_eq_some_iff.1 RWd.out).1 B5.out.size)).trans ((B5.out.block gp (Array.getElem?_eq_some_iff.1 RWd.out).1).trans RWd.out))
        have HB6 : Below w.heap.size w w6 := HB5.out.trans (B6.out.mono HB5.out.size)
        have HB7 : Hid (Below w.heap.size w w7) := HB6.trans (hfr7.below HB6.size (fun j hj => by
          rcases hj with hj | hj
          · exact (HD.out.fit j hj).1
          · exact (HW.out.fit j hj).1))
        have HP7 : Hid (Pfz w w7 gp 0 n Z7 (-1) ((t + 1) % 18446744073709551616) (sumL []) []) := ⟨gd, gw, Fd7, Fw7, vk, HB7.out, hd7, hw7, hdis7, RW7.out, HNP.out.1, fun h => by
          rcases hgr7 gp (.inl h) with h | h
          · exact h.elim HNP.out.2.1 HNP.out.2.2
          · omega, fun h => by
          rcases hgr7 gp (.inr h) with h | h
          · exact h.elim HNP.out.2.1 HNP.out.2.2
          · omega, hI7, by rw [hO7.len]; exact HIN.out, HN.out.1⟩
        have W7 := Lib.hid hw7
        have CM7 := fun W (hW : Below w7.heap.size w7 W) => wRoom_any W (W7.out.below hW) (fun _ => ⟨by show 1 ≤ n; have := HN.out; omega, by show n ≤ 65536; have := HN.out; omega, Nat.zero_le _⟩)
        have hroom7 : Ws.room ⟨0, n, (t + 1) % 18446744073709551616, sumL [], [], false⟩ = (rm : Int) := by rw [HRM.out]; show ((hlf n * 64 : Nat) : Int) - ((0 : Nat) : Int) = _; omega
        rw [hroom7] at CM7
        have CM7 := Lib.hid CM7
        have K7 : Hid (∀ W, Below w7.heap.size w7 W → W.cell? ⟨gp, 1, none⟩ = some (.pointer (some ⟨gw, 0, none⟩))) := fun W hW => by
          rw [cell_of_row W gp _ _ _ _ ((hW.block gp (Array.getElem?_eq_some_iff.1 RW7.out).1).trans RW7.out)]
          rfl
        have z2 := K7.out w7 (Below.refl _ _)
        have t1 : ¬ (rm : Int) < 0 := by omega
        have t2 : ¬ (rm : Int) < ls := by have := HRL.out.1; omega
        clear hdis7 hfr7 hgr7 hd7 hw7 hI7 hO7 hgp6 HB6 hroom7 y2 hf hf2 hl7
        go_wp2_with (first
          | (have qq := B8; clear qq; go_at_call 16; refine (CM7.out _ B8.out).mono ?_; rintro e w9 ⟨rfl, hb9⟩; have B9 := Lib.hid (B8.out.trans (hb9.mono B8.out.size)); clear hb9)
          | (go_at_call 16; refine (CM7.out _ (Below.refl _ _)).mono ?_; rintro e w8 ⟨rfl, hb8⟩; have B8 := Lib.hid hb8; clear hb8 z2; have z2 := K7.out w8 B8.out)
          | (go_at_call 20; refine (CLS.out _).mono ?_; rintro e wx ⟨rfl, rfl⟩)
          | fail)
        go_roundw
        case rel =>
          obtain ⟨gd', gw', Fd', Fw', vk', q1, q2, q3, q4, q5, q6, q7, q8, q9, q10, q11⟩ := HP7.out
          exact ⟨i + 1, by omega, by simp, Z7, _, _, _, gd', gw', Fd', Fw', vk', q1.trans (B9.out.mono q1.size), q2.below B9.out, q3.below B9.out, q4, (B9.out.block gp (Array.getElem?_eq_some_iff.1 q5).1).trans q5, q6, q7, q8, q9, q10, q11⟩
        case measure => simp [intOf]; omega
      · rw [if_neg hf] at CA4
        have CA5 := Lib.hid CA4
        clear CA4
        go_wp2_with fail
        refine CA5.out.mono ?_
        rintro e w5 h5
        rcases h5 with ⟨h5, -, -⟩ | ⟨-, Fd5, Fw5, hdis5, hfr5, hgr5, h5⟩
        · exact absurd rfl h5
        rcases h5 with ⟨Z5, l5, hl5, rfl, hd5, hw5, hI5, hO5⟩ | ⟨h5, -⟩
        case inr => exact absurd rfl h5
        obtain rfl := hl5 rfl
        have hf2 : (k : Int) + 7 ≤ rl := by omega
        have hgpd : gp < wd.heap.size := (Array.getElem?_eq_some_iff.1 RWd.out).1
        have RW5 : Hid (w5.heap[gp]? = some (.cells #[.pointer (some ⟨gd, 0, none⟩), .pointer (some ⟨gw, 0, none⟩), .int .i64 ((0 : Nat) : Int), .int .i64 (n : Int), vk, .bool true] 31 (0, 0))) := (hfr5.block gp hgpd (fun h => h.elim HNP.out.2.1 HNP.out.2.2)).trans RWd.out
        have HB5 : Hid (Below w.heap.size w w5) := HB3d.out.trans (hfr5.below HB3d.out.size (fun j hj => by
          rcases hj with hj | hj
          · exact (HD.out.fit j hj).1
          · exact (HW.out.fit j hj).1))
        have HP5 : Hid (Pfz w w5 gp 0 n Z5 (-1) (turnN t len) (len + (rr.dat.length + 7)) (L ++ [rr])) := ⟨gd, gw, Fd5, Fw5, vk, HB5.out, hd5, hw5, hdis5, RW5.out, HNP.out.1, fun h => by
          rcases hgr5 gp (.inl h) with h | h
          · exact h.elim HNP.out.2.1 HNP.out.2.2
          · omega, fun h => by
          rcases hgr5 gp (.inr h) with h | h
          · exact h.elim HNP.out.2.1 HNP.out.2.2
          · omega, hI5, by rw [hO5.len]; exact HIN.out, HN.out.1⟩
        have Rb5 : Hid (w5.heap[w2.heap.size]? = some (.cells #[.int .i64 1, .slice (some ⟨wr.heap.size, 0, none⟩) k k] 35 (0, 0))) := (hfr5.block _ HSL.out (HNF.out _ (Nat.le_of_lt S3.out.1))).trans Rb.out
        have W5 := Lib.hid hw5
        have CM5 := fun W (hW : Below w5.heap.size w5 W) => wRoom_any W (W5.out.below hW) (fun _ => ⟨by show 1 ≤ n; have := HN.out; omega, by show n ≤ 65536; have := HN.out; omega, hI5.fit⟩)
        obtain ⟨rq, hrq⟩ : ∃ rq : Nat, Ws.room ⟨0, n, turnN t len, len + (rr.dat.length + 7), L ++ [rr], false⟩ = (rq : Int) := by
          refine ⟨hlf n * 64 - (len + (rr.dat.length + 7)), ?_⟩
          show ((hlf n * 64 : Nat) : Int) - ((len + (rr.dat.length + 7) : Nat) : Int) = _
          have := hI5.fit
          omega
        have t1 : ¬ (rq : Int) < 0 := by omega
        rw [hrq] at CM5
        have CM5 := Lib.hid CM5
        have K5 : Hid (∀ W, Below w5.heap.size w5 W → W.cell? ⟨gp, 1, none⟩ = some (.pointer (some ⟨gw, 0, none⟩))) := fun W hW => by
          rw [cell_of_row W gp _ _ _ _ ((hW.block gp (Array.getElem?_eq_some_iff.1 RW5.out).1).trans RW5.out)]
          rfl
        obtain ⟨⟨y0, y1⟩, -, -⟩ := row2 Rb5.out
        clear hdis5 hfr5 hgr5 hd5 hw5 hI5 hO5 hgpd hrq hf hl5
        go_wp2_with (first
          | (go_at_call 18; refine (CSZ.out _).mono ?_; rintro e w6 ⟨rfl, hb6⟩; have B6 := Lib.hid hb6; clear hb6 y0 y1; have z2 := K5.out w6 B6.out)
          | (go_at_call 16; refine (CM5.out _ B6.out).mono ?_; rintro e w9 ⟨rfl, hb9⟩; have B9 := Lib.hid (B6.out.trans (hb9.mono B6.out.size)); clear hb9)
          | fail)
        go_roundw
        case rel =>
          obtain ⟨gd', gw', Fd', Fw', vk', q1, q2, q3, q4, q5, q6, q7, q8, q9, q10, q11⟩ := HP5.out
          exact ⟨i + 1, by omega, by simp, Z5, _, _, _, gd', gw', Fd', Fw', vk', q1.trans (B9.out.mono q1.size), q2.below B9.out, q3.below B9.out, q4, (B9.out.block gp (Array.getElem?_eq_some_iff.1 q5).1).trans q5, q6, q7, q8, q9, q10, q11⟩
        case measure => simp [intOf]; omega
    · have hin : ¬ (i : Int) < (m : Int) := by omega
      obtain ⟨Z, t, len, L, gd, gw, Fd, Fw, vk, hb, -⟩ := HZ.out
      have BW := Lib.hid hb
      clear hb
      go_wp2_with (first
        | (go_at_call 8; refine (HH.out wr BW.out).mono ?_; rintro e w9 ⟨rfl, hb9⟩; have B9 := Lib.hid (BW.out.trans (hb9.mono BW.out.size)); clear hb9)
        | fail)
      go_ret
      exact ⟨rfl, B9.out⟩
end Go.Proofs.YtahgaogmcffglaaDoor
/- WalFits returns true for every input, and leaves each argument as it was. No condition. -/
namespace Go.Proofs.YtahgaogmcffglaaDoor.walFits
open Go.ChangeShapes Go.WideShapes Go.ChangeAt Go.RowKit
open Go.ChangeMaps (open_string shut_string)
set_option linter.unusedVariables false

theorem own : ownKnob Tryd.prog.godebug = none := by kernel_rfl
theorem laidOut : laidOutB Tryd.prog = true := by kernel_rfl

set_option maxRecDepth 100000 in
theorem contract (H : Type) (enc : TypeId × Value → H) (W : World) (base : Nat) (args : Array Value) (ds gs : List (DataW H)) (before : List MemPlace)
    (hval0 : ∀ (j : Nat) t v, Tryd.f5.params[j]? = some t → args[j]? = some v → Value.okWide Tryd.prog W .any base t v)
    (hW : DataW.Whole enc Tryd.prog Tryd.f5.params.toList Rows.walFitsSpec.vars false W args.toList ds gs before)
    (hsz0 : (DataW.weightsEach Tryd.prog (Tryd.f5.params.toList ++ Rows.walFitsSpec.plain.varTypes Tryd.prog) (ds ++ gs)).all (· ≤ reachBytes) = true)
    (hL : laidMet Tryd.prog laidL W) :
    Calls Tryd.prog 5 args W fun e W' => ∃ v, e = .returned v ∧ Rows.walFitsSpec.post enc Tryd.prog Tryd.f5 false true false false W args v W' := by
  have hsz := hsz0
  have hval := hval0
  have hW' := hW
  obtain ⟨p, q, hA0, hV, rfl, hfz, hnd⟩ := hW
  have hA : DataW.TrodAll enc Tryd.prog W 0 (fun _ => true) true Tryd.f5.params.toList args.toList ds p := hA0
  rw [Tryd.params5] at hA hval hsz
  obtain ⟨v0, vs0, d0, ds0, p0, q0, hargs, rfl, rfl, h0, r0⟩ := trodAll_cons hA
  obtain ⟨v1, vs1, d1, ds1, p1, q1, rfl, rfl, rfl, h1, r1⟩ := trodAll_cons r0
  obtain ⟨rfl, rfl, rfl⟩ := trodAll_nil r1
  obtain rfl : args = #[v0, v1] := by cases args; simp_all
  obtain ⟨rfl, rfl⟩ := trodVars_none hV
  obtain ⟨A, hAA⟩ := lds14_of hL
  obtain ⟨a0, rfl, rfl, rfl, w0⟩ := open_int Tryd.underlying3 (hval 0 3 v0 rfl rfl) h0
  obtain ⟨a1, len1, cap1, rfl⟩ := okWide_slice Tryd.underlying36 (hval 1 36 v1 rfl rfl)
  have k1 := h1
  have lt1 : ∀ x ∈ p1, x.block < W.heap.size := by obtain ⟨m, hm⟩ := k1; exact DataW.trod_lt m _ _ _ hm
  obtain ⟨l1, z1⟩ : ∃ l, Rz15 W a1 len1 l ∧ len1 ≤ cap1 ∧ ∀ x ∈ l, (Lit.int .i64 x).wf = true := by
    obtain ⟨fuel, hf⟩ := h1
    rcases open_ints Tryd.underlying36 Tryd.underlying3 (by kernel_rfl) hf with ⟨hcs, _⟩ | ⟨x, l, c, zs, hcs, _, hl, hm, hz, hd, hcell, hwz⟩
    · simp [Value.cells] at hcs
      obtain ⟨rfl, rfl, rfl⟩ := hcs
      exact ⟨[], Rz15.nil_, Nat.le_refl _, fun x hx => by simp at hx⟩
    · simp [Value.cells] at hcs
      obtain ⟨rfl, rfl, rfl⟩ := hcs
      have hz' : zs.length = cap1 := by simpa using hz
      exact ⟨_, Rz15.of_ints hl hz' hcell, hl, fun x hx => hwz x (List.mem_of_mem_take hx)⟩
  clear hA0 hval0
  refine (walFits_walk a0 a1 len1 cap1 l1 W A w0 z1 hAA).mono fun e W' ⟨he, bel⟩ => ?_
  subst he
  exact ⟨_, rfl, _, _, _, [], _, [], hW', trodAll_mk1 (shut_bool Tryd.underlying4 _), (trodAll_cons_mk (shut_int Tryd.underlying3 w0) (trodAll_cons_mk (Below.trod laidOut (by kernel_rfl) (of_decide_eq_true (by kernel_rfl)) k1 bel lt1) trodAll_mk0)), rfl, bel.frame _, fun h => by cases h⟩

theorem reads (os : Os) {H : Type} (enc : TypeId × Value → H) : ∃ places, DataW.whole enc Tryd.prog ((laidW os).forCall (fun _ _ => 0) ⟨#[], #[.int .i64 0, .slice none 0 0], []⟩).memory Tryd.f5.params.toList Rows.walFitsSpec.vars false (#[.int .i64 0, .slice none 0 0] : Array Value).toList 8 = some ([.lit (.int .i64 0), .nil], [], places) :=
  ⟨[], by kernel_rfl⟩

set_option maxRecDepth 100000 in
theorem lifted (os : Os) (started : os.Started) (H : Type) (enc : TypeId × Value → H) (F : Stop.Interp) :
    ReturnsInHanded {} Tryd.checked os 5 .any ((OpenSpec.ofChange Rows.walFitsSpec).preRow enc Tryd.prog Tryd.f5 Rows.walFitsRow.domain false Rows.walFitsRow.laid) (((OpenSpec.ofChange Rows.walFitsSpec).at F).post enc Tryd.prog Tryd.f5 false true false false) := by
  obtain ⟨places, hx⟩ := reads os enc
  refine returnsInHanded_of_row (C := Tryd.checked) (s := OpenSpec.ofChange Rows.walFitsSpec) own started (by kernel_rfl) Tryd.func5
    (witness_row_at (enc := enc) (C := Tryd.checked) false (laidW os) #[.int .i64 0, .slice none 0 0] rfl (by kernel_rfl) (by kernel_rfl) (by kernel_rfl)
      (OpenSpec.preRow_of_cond 8 hx (by kernel_rfl) (fun k hk => by cases hk) (by kernel_rfl) (laidW_metH os _))) ?_
  intro W base args ds gs before hval hW _ _ hsz hL _ _
  exact contract H enc W base args ds gs before hval hW hsz (laidH hL)

theorem said : Rows.WalFitsSaid :=
  OpenClaim.holds_of_cond 5 Tryd.f5 rfl rfl rfl rfl rfl rfl rfl ⟨rfl, rfl, rfl, rfl, rfl⟩ rfl rfl rfl rfl rfl (by kernel_rfl) Tryd.func5 (by kernel_rfl)
    (of_decide_eq_true (by kernel_rfl)) (by unfold Func.isWrapper; first | (rw [if_pos (by decide +kernel)]; kernel_rfl) | (rw [if_neg (by decide +kernel)]; exact ⟨rfl, rfl⟩))
    (fun os started H enc _ F => by rw [OpenClaim.pre_eq_preRow]; exact lifted os started H enc F)

theorem plainParams (f : FuncId) (fn : Func) (hf : Tryd.pinned.checked.prog.funcNamed "fairlead/fairleadlaw15.WalFits" = some f) (hfn : Tryd.pinned.checked.prog.funcs[f]? = some fn) :
    true = Tryd.pinned.checked.prog.looks [] ∧ ∀ (j : Nat) t, fn.params[j]? = some t → Tryd.pinned.checked.prog.wantsStandIn t = false := by
  obtain rfl : f = 5 := Option.some.inj ((show Tryd.prog.funcNamed "fairlead/fairleadlaw15.WalFits" = some 5 by kernel_rfl).symm.trans hf) |>.symm
  obtain rfl : fn = Tryd.f5 := (Option.some.inj (Tryd.func5.symm.trans hfn)).symm
  refine ⟨by kernel_rfl, fun j t ht => ?_⟩
  rw [Tryd.params5] at ht
  have hm := Array.mem_of_getElem? ht
  have hor : t = 3 ∨ t = 36 := by simpa using hm
  rcases hor with rfl | rfl
  · exact (show Tryd.prog.wantsStandIn 3 = false by kernel_rfl)
  · exact (show Tryd.prog.wantsStandIn 36 = false by kernel_rfl)

/-- The statement: the card. -/
theorem proved : Rows.WalFitsCardSaid :=
  Claim7.holds_tied_plain_at .later [] _ _ _ _ said (fun _ h => by cases h) (by kernel_rfl) (fun _ h => by cases h) walFits_row_tie rfl ⟨rfl, rfl⟩ (by kernel_rfl) rfl plainParams (by kernel_rfl)
#print axioms proved
end Go.Proofs.YtahgaogmcffglaaDoor.walFits
