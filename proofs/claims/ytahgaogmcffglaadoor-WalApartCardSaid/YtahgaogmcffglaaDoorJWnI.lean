/- Layer 15's law: a log that is played; begin. -/
import Derived.Test.YtahgaogmcffglaaDoorJWlG
import Derived.Test.YtahgaogmcffglaaDoorJWnB
import Derived.StillTailTactics
namespace Go.Proofs.YtahgaogmcffglaaDoor
open Go.RowKit

/-- A row of records that reads as K, whatever is done to blocks of N. -/
def KpR (w : World) (N : Nat → Prop) (vk : Value) (K : List Rcd) : Prop := ∃ A c, vk = .slice A K.length c ∧ K.length ≤ c ∧ ∀ W, Fr N w W → RwC W w.heap.size A K.length K
theorem KpR.go {w w1 : World} {N N' : Nat → Prop} {vk : Value} {K : List Rcd} (h : KpR w N vk K) (hf : Fr N w w1) (hg : Grew w N N') : KpR w1 N' vk K := by
  obtain ⟨A, c, h1, h2, h3⟩ := h
  exact ⟨A, c, h1, h2, fun W hW => (h3 W (hf.trans hW hg)).moreB hf.size⟩
theorem KpR.below {w w1 : World} {N : Nat → Prop} {vk : Value} {K : List Rcd} (h : KpR w N vk K) (hb : Below w.heap.size w w1) : KpR w1 N vk K := h.go (Fr.of_below hb) (Grew.refl _ _)
theorem KpR.fewer {w : World} {N N' : Nat → Prop} {vk : Value} {K : List Rcd} (h : KpR w N vk K) (hN : ∀ k, N' k → N k) : KpR w N' vk K := by
  obtain ⟨A, c, h1, h2, h3⟩ := h
  exact ⟨A, c, h1, h2, fun W hW => h3 W (hW.wide hN)⟩
theorem KpR.nil_ (w : World) (N : Nat → Prop) : KpR w N (.slice none 0 0) [] := ⟨none, 0, rfl, Nat.le_refl _, fun _ _ => ⟨rfl, fun h => absurd h (Nat.lt_irrefl 0)⟩⟩
/-- A row of one's own that lies in no block of N. -/
theorem KpR.of {w : World} {N : Nat → Prop} {B : Nat} {v : Value} {qs : List QR} (h : ScS w B v qs) (hN : ∀ k, FtR v qs k → ¬ N k) : KpR w N v (qs.map (·.1)) := by
  obtain ⟨A, c, rfl, hc, -⟩ := h.rw
  have hl : (qs.map (·.1)).length = qs.length := List.length_map _
  refine ⟨A, c, by rw [hl], by rw [hl]; exact hc, fun W hW => ?_⟩
  have h2 : ScS W B (.slice A qs.length c) qs := h.same (fun b hb => hW.block b (h.own_ge (.inl hb)).2 (hN b (.inl hb))) (fun q hq b hb => hW.block b (h.own_ge (.inr ⟨q, hq, hb⟩)).2 (hN b (.inr ⟨q, hq, hb⟩)))
  obtain ⟨A', c', e, -, hr⟩ := h2.rw
  injection e with e1 e2 e3
  subst e1
  rw [hl]
  refine ⟨hl, fun h0 => ?_⟩
  obtain ⟨b, o, eb, hb, hx⟩ := hr.2 h0
  have hb2 : b < w.heap.size := by
    subst eb
    exact (h.own_ge (.inl rfl)).2
  refine ⟨b, o, eb, hb2, fun i r hi => ?_⟩
  obtain ⟨Ad, nd, cd, k1, k2, k3, k4, k5⟩ := hx i r hi
  refine ⟨Ad, nd, cd, k1, k2, k3, k4, k5.1, fun h1 => ?_⟩
  obtain ⟨b2, o2, e2, hb3, hc2⟩ := k5.2 h1
  refine ⟨b2, o2, e2, ?_, hc2⟩
  rw [List.getElem?_map] at hi
  obtain ⟨q, hq, hqr⟩ := Option.map_eq_some_iff.1 hi
  obtain ⟨f1, f2⟩ := flatQ_at qs i q hq
  have g2 := World.ownsRow.cells h2.1 (g := b) (by rw [eb]; rfl) _ _ f2
  rw [add_mk14] at g2
  subst eb
  have ho : o = 0 := by
    rcases h.1.2 with ⟨hv, -⟩ | ⟨gg, cap, cur, hv, -⟩
    · injection hv with x1 _ _
      exact absurd x1 (by simp)
    · injection hv with x1 _ _
      injection x1 with x2
      injection x2 with _ x3 _
  subst ho
  rw [Nat.zero_add] at k2 g2
  have e5 := k2.symm.trans g2
  injection e5 with e6
  injection e6 with e7 e8 e9
  have hmem := List.mem_of_getElem? hq
  have := (h.2 q hmem).1.own_ge (k := b2) (by
    rw [← e7, e2]
    rfl)
  exact this.2
/-- A log that is played, and stands: its disk has power, nothing waits, and what is kept is what its sectors say. -/
def Ply (w0 w : World) (gp a n : Nat) (Z : List (List UInt8)) (lf : Int) (t len : Nat) (K : List Rcd) (N : Nat → Prop) : Prop :=
  ∃ gd gw Fd Fw vk, Below w0.heap.size w0 w ∧ CDk w Fd w0.heap.size gd ⟨Z, [], true, lf⟩ ∧ WlK w Fw w0.heap.size gw gd ⟨a, n, t, len, K, false⟩ ∧ (∀ k, Fd k → ¬ Fw k) ∧
    w.heap[gp]? = some (.cells #[.pointer (some ⟨gd, 0, none⟩), .pointer (some ⟨gw, 0, none⟩), .int .i64 (a : Int), .int .i64 (n : Int), vk, .bool true] 31 (0, 0)) ∧
    w0.heap.size ≤ gp ∧ ¬ Fd gp ∧ ¬ Fw gp ∧ KpR w N vk K ∧ InZ a n Z t len K ∧ a + n ≤ Z.length ∧ 4 ≤ n ∧ (∀ k, Fd k ∨ Fw k ∨ k = gp → N k) ∧ ∀ k, N k → w0.heap.size ≤ k ∧ k < w.heap.size
theorem Ply.below {w0 w w1 : World} {gp a n : Nat} {Z : List (List UInt8)} {lf : Int} {t len : Nat} {K : List Rcd} {N : Nat → Prop} (h : Ply w0 w gp a n Z lf t len K N) (hb : Below w.heap.size w w1) : Ply w0 w1 gp a n Z lf t len K N := by
  obtain ⟨gd, gw, Fd, Fw, vk, h1, h2, h3, h4, h5, h6, h7, h8, h9, h10, h11, h12, h13, h14⟩ := h
  exact ⟨gd, gw, Fd, Fw, vk, h1.trans (hb.mono h1.size), h2.below hb, h3.below hb, h4, (hb.block gp (Array.getElem?_eq_some_iff.1 h5).1).trans h5, h6, h7, h8, h9.below hb, h10, h11, h12, h13, fun k hk => ⟨(h14 k hk).1, Nat.lt_of_lt_of_le (h14 k hk).2 hb.size⟩⟩
set_option maxRecDepth 100000 in
set_option maxHeartbeats 8000000 in
theorem begin_any (X : Snt14) (a n : Nat) (w : World) (hA : ∀ W, Below w.heap.size w W → Lds14 X W) (ha : a ≤ 20) (hn : 4 ≤ n) (hn2 : n ≤ 60) :
    Calls Tryd.prog 9 #[.int .i64 (a : Int), .int .i64 (n : Int)] w fun e w' => ∃ gp N, e = .returned (.pointer (some ⟨gp, 0, none⟩)) ∧ Ply w w' gp a n (List.replicate (a + n + 2) z64) (-1) 0 0 [] N := by
  have HA := Lib.hid hA
  obtain ⟨N, hN⟩ : ∃ N, N = a + n + 2 := ⟨_, rfl⟩
  have w1 : IntKind.i64.wrap ((a : Int) + (n : Int)) = (a : Int) + (n : Int) := by rw [IntKind.wrap_i64]; omega
  have w2 : IntKind.i64.wrap ((a : Int) + (n : Int) + 2) = (N : Int) := by rw [IntKind.wrap_i64]; omega
  have CN := Lib.hid (cnew_any (N : Int) w)
  have CL := Lib.hid (fun W => rleast_any n W (by omega))
  have HNN : Hid (a + n + 2 = N) := hN.symm
  have HN4 : Hid (4 ≤ n ∧ n ≤ 60 ∧ a ≤ 20) := ⟨hn, hn2, ha⟩
  rw [← hN]
  clear hA ha hn hn2 hN
  go_enter Tryd.func9, Tryd.ntmps9
  go_wp2_with fail
  refine CN.out.mono ?_
  rintro e w3 h3
  rcases h3 with ⟨-, -, Fd, gd, rfl, hd3, hb3⟩ | ⟨h3, -, -⟩
  case inr => exact absurd ⟨by have := HN4.out; have := HNN.out; omega, by have := HN4.out; have := HNN.out; omega⟩ h3
  rw [Int.toNat_natCast] at hd3
  have D3 := Lib.hid hd3
  have B3 := Lib.hid hb3
  have CO := Lib.hid (wOpen_any X w3 (B := w.heap.size) a n 0 0 [] (fun W hW => HA.out W (hb3.trans hW)) hb3.size hd3 HN4.out.1 (by rw [List.length_replicate]; have := HNN.out; omega) (inz_noughts a n N (by have := HNN.out; omega)))
  clear hd3 hb3
  go_wp2_with fail
  refine CO.out.mono ?_
  rintro e w4 ⟨hb4, gw, v4, q4, Fw, mid, rfl, hw4, hf4, hm4, hs4, hq4⟩
  have hq0 : q4 = [] := by simpa using hq4
  subst hq0
  obtain ⟨A4, c4, rfl, -, -⟩ := hs4.rw
  have W4 := Lib.hid hw4
  have B4 := Lib.hid hb4
  have HFW := Lib.hid hf4
  have CM := wRoom_any w4 hw4 (fun _ => ⟨by show 1 ≤ n; have := HN4.out; omega, by show n ≤ 65536; have := HN4.out; omega, Nat.zero_le _⟩)
  have hrm : Ws.room ⟨a, n, 0, 0, [], false⟩ = ((hlf n * 64 : Nat) : Int) := by
    show ((hlf n * 64 : Nat) : Int) - ((0 : Nat) : Int) = _
    omega
  rw [hrm] at CM
  have CM := Lib.hid CM
  obtain ⟨rm, hrm2⟩ : ∃ rm, rm = hlf n * 64 := ⟨_, rfl⟩
  obtain ⟨ls, hls⟩ : ∃ ls : Int, ls = 64 * ((n / 2 : Nat) : Int) - 128 := ⟨_, rfl⟩
  have hlt : ¬ (rm : Int) < ls := by rw [hrm2, hls]; unfold hlf; have := HN4.out; omega
  rw [← hrm2] at CM
  rw [← hls] at CL
  clear hb4 hw4 hf4 hs4 hq4 hrm hrm2 hls
  go_wp2_with (first
    | (go_at_call 16; refine CM.out.mono ?_; rintro e w5 ⟨rfl, hb5⟩; have B5 := Lib.hid hb5; clear hb5)
    | (go_at_call 20; refine (CL.out _).mono ?_; rintro e wx ⟨rfl, rfl⟩)
    | fail)
  go_ret
  have hb6 : Below w5.heap.size w5 (w5.alloc (.cells #[.pointer (some ⟨gd, 0, none⟩), .pointer (some ⟨gw, 0, none⟩), .int .i64 (a : Int), .int .i64 (n : Int), .slice none 0 0, .bool true] 31)) := (Below.refl _ _).alloc (Nat.le_refl _) _
  have hb46 := B5.out.trans (hb6.mono B5.out.size)
  refine ⟨w5.heap.size, fun k => Fd k ∨ Fw k ∨ k = w5.heap.size, rfl, gd, gw, Fd, Fw, .slice none 0 0, B3.out.trans ((B4.out.trans (hb46.mono B4.out.size)).mono B3.out.size), (D3.out.below B4.out).below hb46, W4.out.below hb46, fun k h1 h2 => ?_, heap_alloc_new w5 _, Nat.le_trans B3.out.size (Nat.le_trans B4.out.size B5.out.size), fun h => ?_, fun h => ?_, KpR.nil_ _ _, inz_noughts a n N (by have := HNN.out; omega), by rw [List.length_replicate]; have := HNN.out; omega, HN4.out.1, fun k h => h, fun k hk => ?_⟩
  · have := (D3.out.fit k h1).2
    have := (HFW.out k h2).1
    omega
  · have h2 := (D3.out.fit _ h).2
    have := B4.out.size
    have := B5.out.size
    omega
  · have h2 := (W4.out.fit _ h).2
    have := B5.out.size
    omega
  · have s1 := B3.out.size
    have s2 := B4.out.size
    have s3 := B5.out.size
    have s4 : w5.heap.size + 1 = (w5.alloc (.cells #[.pointer (some ⟨gd, 0, none⟩), .pointer (some ⟨gw, 0, none⟩), .int .i64 (a : Int), .int .i64 (n : Int), .slice none 0 0, .bool true] 31)).heap.size := by simp
    rcases hk with hk | hk | rfl
    · have := D3.out.fit k hk; omega
    · have := W4.out.fit k hk; omega
    · omega
end Go.Proofs.YtahgaogmcffglaaDoor
/- Layer 15's law: small. -/
namespace Go.Proofs.YtahgaogmcffglaaDoor
open Go.RowKit

/-- What small asks of a call. -/
def SmO (x : OpW) : Prop := x.r.dat.length ≤ 2000 ∧ x.l.length ≤ 20 ∧ x.keep.length ≤ 300 ∧ ∀ r ∈ x.l, r.dat.length ≤ 500
/-- What small answers. -/
def SmR (n : Nat) (l : List OpW) (w : World) (e : Ending) (w' : World) : Prop := (∃ r, e = .returned (.bool r) ∧ (r = true → n ≤ 100 ∧ ∀ x ∈ l, SmO x)) ∧ Below w.heap.size w w'
theorem smR_mk {n : Nat} {l : List OpW} {w w' : World} (r : Bool) (h : r = true → n ≤ 100 ∧ ∀ x ∈ l, SmO x) (hb : Below w.heap.size w w') : SmR n l w (.returned (.bool r)) w' := ⟨⟨r, rfl, h⟩, hb⟩
set_option maxRecDepth 100000 in
set_option maxHeartbeats 8000000 in
theorem small15_any (A : Option Addr) (n c : Nat) (l : List OpW) (w : World) (h : RdO15 w A n l) (hn : n ≤ 9223372036854775807) :
    Calls Tryd.prog 7 #[.slice A n c] w (SmR n l w) := by
  have HR := Lib.hid h
  have HN := Lib.hid hn
  have HLN : Hid (n = l.length) := h.1
  clear h hn
  go_enter Tryd.func7, Tryd.ntmps7
  go_wp2_with fail
  go_loopw [2, 3, 4] (fun v2 v3 v4 wr => ∃ (i : Nat), i ≤ n ∧ v2 = .bool false ∧ v3 = .int .i64 (i : Int) ∧ Hid (Below w.heap.size w wr) ∧ Hid (∀ x ∈ l.take i, SmO x)) (fun _ v3 _ _ => n - (intOf v3).toNat)
  case atStart => exact ⟨0, Nat.zero_le _, rfl, rfl, Below.refl _ _, fun x hx => absurd hx (by simp)⟩
  case round =>
    obtain ⟨i, hi, rfl, rfl, HW, HO⟩ := hrel
    by_cases hlt : i < n
    · obtain ⟨b, o, rfl, hb, hx⟩ := HR.out.2.2 (by omega)
      have hil : i < l.length := by rw [← HLN.out]; exact hlt
      obtain ⟨x, hxe⟩ : ∃ x, x = l[i]'hil := ⟨_, rfl⟩
      have hxi : l[i]? = some x := by rw [hxe]; exact List.getElem?_eq_getElem hil
      have HXI := Lib.hid hxi
      obtain ⟨-, ⟨-, hrd⟩, ⟨-, hla⟩, -, hka⟩ := HR.out.2.1 x (List.mem_of_getElem? hxi)
      have kx := hx i x hxi
      have HI : (i : Int) < (n : Int) := by omega
      have KX : Hid (∀ W, Below w.heap.size w W → W.cell? ⟨b, o + i * 6 + 2, none⟩ = some (.slice x.ra x.rn x.rc) ∧ W.cell? ⟨b, o + i * 6 + 3, none⟩ = some (.slice x.la x.ln x.lc) ∧ W.cell? ⟨b, o + i * 6 + 5, none⟩ = some (.slice x.ka x.kn x.kc)) := fun W hW => ⟨(hW.cell (p := ⟨b, o + i * 6 + 2, none⟩) hb).trans (kx 2 _ rfl), (hW.cell (p := ⟨b, o + i * 6 + 3, none⟩) hb).trans (kx 3 _ rfl), (hW.cell (p := ⟨b, o + i * 6 + 5, none⟩) hb).trans (kx 5 _ rfl)⟩
      obtain ⟨x2, x3, x5⟩ := KX.out wr HW.out
      have x2' : wr.cell? ⟨b, o + i * 6 + 1 + 1, none⟩ = some (.slice x.ra x.rn x.rc) := x2
      have HRL : Hid (x.r.dat.length = x.rn) := hrd.1
      have HLL : Hid (x.l.length = x.ln) := hla.1
      have HKL : Hid (x.kn = x.keep.length) := hka.1
      have HLA := Lib.hid hla.2
      have w1 : IntKind.i64.wrap ((i : Int) + 1) = (i : Int) + 1 := by rw [IntKind.wrap_i64]; have := HN.out; omega
      have HT : Hid (∀ (W : World), Below w.heap.size w W → SmR n l w (.returned (.bool false)) W) := fun W hW => smR_mk false (fun h => by cases h) hW
      clear hx hxe kx hrd hla hka hil hxi
      by_cases c1 : x.rn ≤ 2000
      case neg =>
        have d1 : decide ((2000 : Int) < (x.rn : Int)) = true := decide_eq_true (by omega)
        have d1i : (2000 : Int) < (x.rn : Int) := by omega
        go_wp2_with fail
        go_ret
        exact HT.out _ HW.out
      have d1 : decide ((2000 : Int) < (x.rn : Int)) = false := decide_eq_false (by omega)
      have d1i : ¬ (2000 : Int) < (x.rn : Int) := by omega
      by_cases c2 : x.ln ≤ 20
      case neg =>
        have d2 : decide ((20 : Int) < (x.ln : Int)) = true := decide_eq_true (by omega)
        have d2i : (20 : Int) < (x.ln : Int) := by omega
        go_wp2_with fail
        go_ret
        exact HT.out _ HW.out
      have d2 : decide ((20 : Int) < (x.ln : Int)) = false := decide_eq_false (by omega)
      have d2i : ¬ (20 : Int) < (x.ln : Int) := by omega
      by_cases c3 : x.kn ≤ 300
      case neg =>
        have d3 : decide ((300 : Int) < (x.kn : Int)) = true := decide_eq_true (by omega)
        have d3i : (300 : Int) < (x.kn : Int) := by omega
        go_wp2_with fail
        go_ret
        exact HT.out _ HW.out
      have d3 : decide ((300 : Int) < (x.kn : Int)) = false := decide_eq_false (by omega)
      have d3i : ¬ (300 : Int) < (x.kn : Int) := by omega
      have HC := Lib.hid (And.intro c1 (And.intro c2 c3))
      clear c1 c2 c3
      obtain ⟨wq, hwq⟩ : ∃ wq, wq = wr := ⟨_, rfl⟩
      subst hwq
      go_wp2_with fail
      go_loopw [2, 4] (fun v2 v4 wl => ∃ (k : Nat), k ≤ x.ln ∧ v2 = .bool false ∧ v4 = .int .i64 (k : Int) ∧ Hid (Below w.heap.size w wl) ∧ Hid (∀ r ∈ x.l.take k, r.dat.length ≤ 500)) (fun _ v4 _ => x.ln - (intOf v4).toNat)
      case atStart => exact ⟨0, Nat.zero_le _, rfl, rfl, HW.out, fun r hr => absurd hr (by simp)⟩
      case round =>
        obtain ⟨k, hk, rfl, rfl, HW2, HO2⟩ := hrel
        clear x2 x2' x3 x5 d1 d2 d3 d1i d2i d3i
        obtain ⟨x2, x3, x5⟩ := KX.out wr HW2.out
        by_cases hkl : k < x.ln
        · obtain ⟨b2, o2, e2, hb2, hx2⟩ := HLA.out (by omega)
          have hkl2 : k < x.l.length := by rw [HLL.out]; exact hkl
          obtain ⟨r, hre⟩ : ∃ r, r = x.l[k]'hkl2 := ⟨_, rfl⟩
          have hri : x.l[k]? = some r := by rw [hre]; exact List.getElem?_eq_getElem hkl2
          obtain ⟨Ad, nd, cd, -, g1, -, g3⟩ := hx2 k r hri
          have HRI := Lib.hid hri
          have HDN : Hid (r.dat.length = nd) := g3.1
          have y1 := (HW2.out.cell (p := ⟨b2, o2 + k * 2 + 1, none⟩) hb2).trans g1
          rw [e2] at x3
          have hki : (k : Int) < (x.ln : Int) := by omega
          have w2 : IntKind.i64.wrap ((k : Int) + 1) = (k : Int) + 1 := by rw [IntKind.wrap_i64]; have := HC.out.2.1; omega
          clear hx2 hre hri hkl2 g1 g3
          by_cases c4 : nd ≤ 500
          · have d4i : ¬ (500 : Int) < (nd : Int) := by omega
            have H4 := Lib.hid c4
            clear c4
            go_wp2_with fail
            go_roundw
            case rel =>
              refine ⟨k + 1, by omega, rfl, by go_num, HW2.out, fun q hq => ?_⟩
              rw [List.take_add_one, HRI.out] at hq
              rcases List.mem_append.1 hq with hq | hq
              · exact HO2.out q hq
              · obtain rfl : q = r := by simpa using hq
                rw [HDN.out]
                exact H4.out
            case measure => simp [intOf]; omega
          · have d4i : (500 : Int) < (nd : Int) := by omega
            go_wp2_with fail
            go_ret
            exact HT.out _ HW2.out
        · have hke : k = x.ln := by omega
          have hki : ¬ (k : Int) < (x.ln : Int) := by omega
          have HX : Hid (SmO x) := ⟨by rw [HRL.out]; exact HC.out.1, by rw [HLL.out]; exact HC.out.2.1, by rw [← HKL.out]; exact HC.out.2.2, fun r hr => HO2.out r (by rw [List.take_of_length_le (by rw [HLL.out]; omega)]; exact hr)⟩
          clear hke
          go_wp2_with fail
          go_roundw
          case rel =>
            refine ⟨i + 1, by omega, rfl, by go_num, HW2.out, fun q hq => ?_⟩
            rw [List.take_add_one, HXI.out] at hq
            rcases List.mem_append.1 hq with hq | hq
            · exact HO.out q hq
            · obtain rfl : q = x := by simpa using hq
              exact HX.out
          case measure => simp [intOf]; omega
    · have hlt2 : ¬ (i : Int) < (n : Int) := by omega
      have HA : Hid (∀ x ∈ l, SmO x) := fun x hx => HO.out x (by rw [List.take_of_length_le (by rw [← HLN.out]; omega)]; exact hx)
      by_cases c5 : n ≤ 100
      · have d5 : decide ((n : Int) ≤ 100) = true := decide_eq_true (by omega)
        have d5i : (n : Int) ≤ 100 := by omega
        have HC := Lib.hid c5
        go_wp2_with fail
        go_ret
        exact smR_mk true (fun _ => ⟨HC.out, HA.out⟩) HW.out
      · have d5 : decide ((n : Int) ≤ 100) = false := decide_eq_false (by omega)
        have d5i : ¬ (n : Int) ≤ 100 := by omega
        go_wp2_with fail
        go_ret
        exact smR_mk false (fun h => by cases h) HW.out
end Go.Proofs.YtahgaogmcffglaaDoor
/- Layer 15's law: again. (Made by gen/WnF.py.) -/
namespace Go.Proofs.YtahgaogmcffglaaDoor
open Go.RowKit

/-- The cells of what is played. -/
def plyC (gd gw a n : Nat) (vk : Value) (ok : Bool) : Array Value := #[.pointer (some ⟨gd, 0, none⟩), .pointer (some ⟨gw, 0, none⟩), .int .i64 (a : Int), .int .i64 (n : Int), vk, .bool ok]
theorem play_at {w : World} {gp gd gw a n : Nat} {vk : Value} {ok : Bool} (h : w.heap[gp]? = some (.cells (plyC gd gw a n vk ok) 31 (0, 0))) : (w.cell? ⟨gp, 0, none⟩ = some (.pointer (some ⟨gd, 0, none⟩)) ∧ w.cell? ⟨gp, 1, none⟩ = some (.pointer (some ⟨gw, 0, none⟩)) ∧ w.cell? ⟨gp, 2, none⟩ = some (.int .i64 (a : Int)) ∧ w.cell? ⟨gp, 3, none⟩ = some (.int .i64 (n : Int)) ∧ w.cell? ⟨gp, 4, none⟩ = some vk ∧ w.cell? ⟨gp, 5, none⟩ = some (.bool ok)) ∧ ∀ j, w.frozen? ⟨gp, j, none⟩ = false := by
  refine ⟨⟨?_, ?_, ?_, ?_, ?_, ?_⟩, fun j => by simp [World.frozen?, h]⟩ <;> (rw [cell_of_row w gp _ _ _ _ h]; rfl)
/-- What again leaves. -/
def AgnR (w0 w : World) (gp a n : Nat) (Z : List (List UInt8)) (N : Nat → Prop) (e : Ending) (w' : World) : Prop :=
  e = .returned (.tuple #[]) ∧ ∃ t len K N', Ply w0 w' gp a n Z (-1) t len K N' ∧ Fr N w w' ∧ Grew w N N'
set_option maxRecDepth 100000 in
set_option maxHeartbeats 16000000 in
theorem again_any (X : Snt14) (w0 w : World) {gp gd gw a n m c : Nat} {A : Option Addr} {ks : List Int} {Fd N : Nat → Prop} {D : Cd} {vk vo : Value} {K Ko : List Rcd} {t0 len0 t1 len1 : Nat}
    (hA : ∀ W, Below w0.heap.size w0 W → Lds14 X W) (hb : Below w0.heap.size w0 w) (hd : CDk w Fd w0.heap.size gd D) (hws : D.waits.length ≤ 1000000)
    (hrow : w.heap[gp]? = some (.cells (plyC gd gw a n vk true) 31 (0, 0))) (hnd : ¬ Fd gp) (hN : ∀ k, Fd k ∨ k = gp → N k) (hN2 : ∀ k, N k → w0.heap.size ≤ k ∧ k < w.heap.size)
    (hk : KpR w N vk K) (ho : KpR w N vo Ko) (hm : m = ks.length) (hkc : 0 < m → ∃ b o, A = some ⟨b, o, none⟩ ∧ b < w0.heap.size ∧ ∀ j x, ks[j]? = some x → w0.cell? ⟨b, o + j, none⟩ = some (.int .i64 x))
    (hT : InZ a n (tornW D.secs D.waits ks) t0 len0 K ∨ InZ a n (tornW D.secs D.waits ks) t1 len1 Ko) (hin : a + n ≤ D.secs.length) (hn4 : 4 ≤ n) :
    Calls Tryd.prog 11 #[.pointer (some ⟨gp, 0, none⟩), .slice A m c, vo] w (AgnR w0 w gp a n (tornW D.secs D.waits ks) N) := by
  obtain ⟨Z, hZ⟩ : ∃ Z, Z = tornW D.secs D.waits ks := ⟨_, rfl⟩
  have hZl : Z.length = D.secs.length := by rw [hZ, tornW_len]
  obtain ⟨t, len, L, hI, hL⟩ : ∃ t len L, InZ a n Z t len L ∧ (L = K ∨ L = Ko) := by
    rw [hZ]
    rcases hT with h | h
    · exact ⟨t0, len0, K, h, .inl rfl⟩
    · exact ⟨t1, len1, Ko, h, .inr rfl⟩
  have CC := Lib.hid (ccrash_any w (A := A) (c := c) (ks := ks) hd hws hm (fun W hW h0 => by
    obtain ⟨b, o, e, hbb, hx⟩ := hkc h0
    refine ⟨b, o, e, fun j x hj => ?_⟩
    have hlw : b < w.heap.size := Nat.lt_of_lt_of_le hbb hb.size
    exact (World.cell?_of_block (a := ⟨b, o + j, none⟩) ((hW.block b hlw (fun hf => by have := (hd.fit b hf).1; omega)).trans (hb.block b hbb))).trans (hx j x hj)))
  unfold Cd.crash at CC
  rw [← hZ] at CC
  rw [← hZ]
  have HA := Lib.hid hA
  have HB := Lib.hid hb
  have HD := Lib.hid hd
  have HRW := Lib.hid hrow
  have HND := Lib.hid hnd
  have HN := Lib.hid hN
  have HN2 := Lib.hid hN2
  have HK := Lib.hid hk
  have HO := Lib.hid ho
  have HI := Lib.hid hI
  have HL := Lib.hid hL
  have HIN : Hid (a + n ≤ Z.length) := by show _ ≤ _; rw [hZl]; exact hin
  have HN4 := Lib.hid hn4
  obtain ⟨⟨c0, c1, c2, c3, c4, c5⟩, -⟩ := play_at hrow
  clear hA hb hd hws hrow hnd hN hN2 hk ho hm hkc hT hin hn4 hZ hZl hI hL
  go_enter Tryd.func11, Tryd.ntmps11
  go_wp2_with fail
  refine CC.out.mono ?_
  rintro e w1 ⟨rfl, hd1, hf1⟩
  have D1 := Lib.hid hd1
  have F1 := Lib.hid hf1
  have R1 : Hid (w1.heap[gp]? = some (.cells (plyC gd gw a n vk true) 31 (0, 0))) := (hf1.block gp (Array.getElem?_eq_some_iff.1 HRW.out).1 HND.out).trans HRW.out
  have CS := Lib.hid (cstart_any w1 hd1)
  obtain ⟨⟨d0, d1, d2, d3, d4, d5⟩, -⟩ := play_at R1.out
  clear hd1 hf1 c0 c1 c2 c3 c4 c5
  go_wp2_with fail
  refine CS.out.mono ?_
  rintro e w2 ⟨rfl, hd2, hf2⟩
  have D2 : Hid (CDk w2 Fd w0.heap.size gd ⟨Z, [], true, -1⟩) := hd2
  have F2 : Hid (Fr Fd w w2) := F1.out.trans hf2 (Grew.refl _ _)
  have R2 : Hid (w2.heap[gp]? = some (.cells (plyC gd gw a n vk true) 31 (0, 0))) := (hf2.block gp (Array.getElem?_eq_some_iff.1 R1.out).1 HND.out).trans R1.out
  have B2 : Hid (Below w0.heap.size w0 w2) := HB.out.trans (F2.out.below HB.out.size (fun k hk => (HD.out.fit k hk).1))
  have KX : Hid (∀ W, Below w2.heap.size w2 W → W.heap[gp]? = some (.cells (plyC gd gw a n vk true) 31 (0, 0))) := fun W hW => (hW.block gp (Array.getElem?_eq_some_iff.1 R2.out).1).trans R2.out
  have CO := Lib.hid (fun W (hW : Below w2.heap.size w2 W) => wOpen_any X W (B := w0.heap.size) a n t len L (fun W' hW' => HA.out W' ((B2.out.trans (hW.mono B2.out.size)).trans hW')) (Nat.le_trans B2.out.size hW.size) (D2.out.below hW) HN4.out HIN.out HI.out)
  unfold OpnR at CO
  clear hd2 hf2 d0 d1 d2 d3 d4 d5
  go_upto_region 2 with fail
  refine wp_region_held_drew (S := fun W => Below w2.heap.size w2 W) (by kernel_rfl) (Below.refl _ _).drew (fun hHeld => ?_)
  refine takeR (i := 0) (v := ?v0_1) rfl (by kernel_rfl) (by kernel_rfl) (by kernel_rfl) (fun _ _ _ h => h) (by rfl) ?hy0_1 (by assumption) ?rest0_1
  case hy0_1 => (intro W hSw; obtain ⟨⟨q0, q1, q2, q3, q4, q5⟩, -⟩ := play_at (KX.out W hSw); go_simp; try with_reducible rfl)
  try simp only [Act.put]
  try simp only [List.setIfInBounds_toArray]
  try simp only [List.set_cons_succ]
  try simp only [List.set_cons_zero]
  refine takeR (i := 1) (v := ?v1_2) rfl (by kernel_rfl) (by kernel_rfl) (by kernel_rfl) (fun _ _ _ h => h) (by rfl) ?hy1_2 (by assumption) ?rest1_2
  case hy1_2 => (intro W hSw; obtain ⟨⟨q0, q1, q2, q3, q4, q5⟩, -⟩ := play_at (KX.out W hSw); go_simp; try with_reducible rfl)
  try simp only [Act.put]
  try simp only [List.setIfInBounds_toArray]
  try simp only [List.set_cons_succ]
  try simp only [List.set_cons_zero]
  refine takeR (i := 2) (v := ?v2_3) rfl (by kernel_rfl) (by kernel_rfl) (by kernel_rfl) (fun _ _ _ h => h) (by rfl) ?hy2_3 (by assumption) ?rest2_3
  case hy2_3 => (intro W hSw; obtain ⟨⟨q0, q1, q2, q3, q4, q5⟩, -⟩ := play_at (KX.out W hSw); go_simp; try with_reducible rfl)
  try simp only [Act.put]
  try simp only [List.setIfInBounds_toArray]
  try simp only [List.set_cons_succ]
  try simp only [List.set_cons_zero]
  refine takeR (i := 3) (v := ?v3_4) rfl (by kernel_rfl) (by kernel_rfl) (by kernel_rfl) (fun _ _ _ h => h) (by rfl) ?hy3_4 (by assumption) ?rest3_4
  case hy3_4 => (intro W hSw; obtain ⟨⟨q0, q1, q2, q3, q4, q5⟩, -⟩ := play_at (KX.out W hSw); go_simp; try with_reducible rfl)
  try simp only [Act.put]
  try simp only [List.setIfInBounds_toArray]
  try simp only [List.set_cons_succ]
  try simp only [List.set_cons_zero]
  refine takeR (i := 4) (v := ?v4_5) rfl (by kernel_rfl) (by kernel_rfl) (by kernel_rfl) (fun _ _ _ h => h) (by rfl) ?hy4_5 (by assumption) ?rest4_5
  case hy4_5 => (intro W hSw; obtain ⟨⟨q0, q1, q2, q3, q4, q5⟩, -⟩ := play_at (KX.out W hSw); go_simp; try with_reducible rfl)
  try simp only [Act.put]
  try simp only [List.setIfInBounds_toArray]
  try simp only [List.set_cons_succ]
  try simp only [List.set_cons_zero]
  refine takeR (i := 5) (v := ?v5_6) rfl (by kernel_rfl) (by kernel_rfl) (by kernel_rfl) (fun _ _ _ h => h) (by rfl) ?hy5_6 (by assumption) ?rest5_6
  case hy5_6 => (intro W hSw; obtain ⟨⟨q0, q1, q2, q3, q4, q5⟩, -⟩ := play_at (KX.out W hSw); go_simp; try with_reducible rfl)
  try simp only [Act.put]
  try simp only [List.setIfInBounds_toArray]
  try simp only [List.set_cons_succ]
  try simp only [List.set_cons_zero]
  refine takeR (i := 6) (v := ?v6_7) rfl (by kernel_rfl) (by kernel_rfl) (by kernel_rfl) (fun _ _ _ h => h) (by rfl) ?hy6_7 (by assumption) ?rest6_7
  case hy6_7 => (intro W hSw; obtain ⟨⟨q0, q1, q2, q3, q4, q5⟩, -⟩ := play_at (KX.out W hSw); go_simp; try with_reducible rfl)
  try simp only [Act.put]
  try simp only [List.setIfInBounds_toArray]
  try simp only [List.set_cons_succ]
  try simp only [List.set_cons_zero]
  refine takeR (i := 7) (v := ?v7_8) rfl (by kernel_rfl) (by kernel_rfl) (by kernel_rfl) (fun _ _ _ h => h) (by rfl) ?hy7_8 (by assumption) ?rest7_8
  case hy7_8 => (intro W hSw; obtain ⟨⟨q0, q1, q2, q3, q4, q5⟩, -⟩ := play_at (KX.out W hSw); go_simp; try with_reducible rfl)
  try simp only [Act.put]
  try simp only [List.setIfInBounds_toArray]
  try simp only [List.set_cons_succ]
  try simp only [List.set_cons_zero]
  refine takeR (i := 8) (v := ?v8_9) rfl (by kernel_rfl) (by kernel_rfl) (by kernel_rfl) (fun _ _ _ h => h) (by rfl) ?hy8_9 (by assumption) ?rest8_9
  case hy8_9 => (intro W hSw; obtain ⟨⟨q0, q1, q2, q3, q4, q5⟩, -⟩ := play_at (KX.out W hSw); go_simp; try with_reducible rfl)
  try simp only [Act.put]
  try simp only [List.setIfInBounds_toArray]
  try simp only [List.set_cons_succ]
  try simp only [List.set_cons_zero]
  refine takeR (i := 9) (v := ?v9_10) rfl (by kernel_rfl) (by kernel_rfl) (by kernel_rfl) (fun _ _ _ h => h) (by rfl) ?hy9_10 (by assumption) ?rest9_10
  case hy9_10 => (intro W hSw; obtain ⟨⟨q0, q1, q2, q3, q4, q5⟩, -⟩ := play_at (KX.out W hSw); go_simp; try with_reducible rfl)
  try simp only [Act.put]
  try simp only [List.setIfInBounds_toArray]
  try simp only [List.set_cons_succ]
  try simp only [List.set_cons_zero]
  refine takeR (i := 10) (v := ?v10_11) rfl (by kernel_rfl) (by kernel_rfl) (by kernel_rfl) (fun _ _ _ h => h) (by rfl) ?hy10_11 (by assumption) ?rest10_11
  case hy10_11 => (intro W hSw; obtain ⟨⟨q0, q1, q2, q3, q4, q5⟩, -⟩ := play_at (KX.out W hSw); go_simp; try with_reducible rfl)
  try simp only [Act.put]
  try simp only [List.setIfInBounds_toArray]
  try simp only [List.set_cons_succ]
  try simp only [List.set_cons_zero]
  refine takeR (i := 11) (v := ?v11_12) rfl (by kernel_rfl) (by kernel_rfl) (by kernel_rfl) (fun _ _ _ h => h) (by rfl) ?hy11_12 (by assumption) ?rest11_12
  case hy11_12 => (intro W hSw; obtain ⟨⟨q0, q1, q2, q3, q4, q5⟩, -⟩ := play_at (KX.out W hSw); go_simp; try with_reducible rfl)
  try simp only [Act.put]
  try simp only [List.setIfInBounds_toArray]
  try simp only [List.set_cons_succ]
  try simp only [List.set_cons_zero]
  have B2d : Hid (Below w2.heap.size w2 w2.drew) := (Below.refl _ _).drew
  clear hHeld
  refine wpAnyH_ready (rs := [12]) (by kernel_rfl) (by simp) ?_
  refine AllReadyH.cons rfl (fun K hK => ?_) AllReadyH.nil
  rw [if_pos (by rfl)]
  go_simp
  refine (CO.out _ B2d.out).mono ?_
  rintro e w5 ⟨hb5, gw5, v5, q5, Fw5, mid, rfl, hw5, hf5, hm5, hs5, hq5⟩
  have B5 := Lib.hid (B2d.out.trans (hb5.mono B2d.out.size))
  go_simp
  refine hK.out _ _ (B5.out) (fun hHeld => ?_)
  try simp only [Act.put]
  try simp only [List.setIfInBounds_toArray]
  try simp only [List.set_cons_succ]
  try simp only [List.set_cons_zero]
  clear hK K
  refine takeR (i := 13) (v := ?v13_13) rfl (by kernel_rfl) (by kernel_rfl) (by kernel_rfl) (fun _ _ _ h => h) (by rfl) ?hy13_13 (by assumption) ?rest13_13
  case hy13_13 => (intro W hSw; go_simp; try with_reducible rfl)
  try simp only [Act.put]
  try simp only [List.setIfInBounds_toArray]
  try simp only [List.set_cons_succ]
  try simp only [List.set_cons_zero]
  refine takeR (i := 14) (v := ?v14_14) rfl (by kernel_rfl) (by kernel_rfl) (by kernel_rfl) (fun _ _ _ h => h) (by rfl) ?hy14_14 (by assumption) ?rest14_14
  case hy14_14 => (intro W hSw; go_simp; try with_reducible rfl)
  try simp only [Act.put]
  try simp only [List.setIfInBounds_toArray]
  try simp only [List.set_cons_succ]
  try simp only [List.set_cons_zero]
  refine takeR (i := 15) (v := ?v15_15) rfl (by kernel_rfl) (by kernel_rfl) (by kernel_rfl) (fun _ _ _ h => h) (by rfl) ?hy15_15 (by assumption) ?rest15_15
  case hy15_15 => (intro W hSw; go_simp; try with_reducible rfl)
  try simp only [Act.put]
  try simp only [List.setIfInBounds_toArray]
  try simp only [List.set_cons_succ]
  try simp only [List.set_cons_zero]
  refine takeR (i := 16) (v := ?v16_16) rfl (by kernel_rfl) (by kernel_rfl) (by kernel_rfl) (fun _ _ _ h => h) (by rfl) ?hy16_16 (by assumption) ?rest16_16
  case hy16_16 => (intro W hSw; go_simp; try with_reducible rfl)
  try simp only [Act.put]
  try simp only [List.setIfInBounds_toArray]
  try simp only [List.set_cons_succ]
  try simp only [List.set_cons_zero]
  refine takeR (i := 17) (v := ?v17_17) rfl (by kernel_rfl) (by kernel_rfl) (by kernel_rfl) (fun _ _ _ h => h) (by rfl) ?hy17_17 (by assumption) ?rest17_17
  case hy17_17 => (intro W hSw; go_simp; try with_reducible rfl)
  try simp only [Act.put]
  try simp only [List.setIfInBounds_toArray]
  try simp only [List.set_cons_succ]
  try simp only [List.set_cons_zero]
  refine takeR (i := 18) (v := ?v18_18) rfl (by kernel_rfl) (by kernel_rfl) (by kernel_rfl) (fun _ _ _ h => h) (by rfl) ?hy18_18 (by assumption) ?rest18_18
  case hy18_18 => (intro W hSw; go_simp; try with_reducible rfl)
  try simp only [Act.put]
  try simp only [List.setIfInBounds_toArray]
  try simp only [List.set_cons_succ]
  try simp only [List.set_cons_zero]
  refine takeR (i := 19) (v := ?v19_19) rfl (by kernel_rfl) (by kernel_rfl) (by kernel_rfl) (fun _ _ _ h => h) (by rfl) ?hy19_19 (by assumption) ?rest19_19
  case hy19_19 => (intro W hSw; go_simp; try with_reducible rfl)
  try simp only [Act.put]
  try simp only [List.setIfInBounds_toArray]
  try simp only [List.set_cons_succ]
  try simp only [List.set_cons_zero]
  refine wpAnyH_done (by kernel_rfl) ?_ _
  clear hHeld
  have HF5 : Hid (∀ k, Fw5 k → w2.heap.size ≤ k ∧ k < mid) := hf5
  have HM5 : Hid (w2.heap.size ≤ mid) := hm5
  have S5 := Lib.hid hs5
  have Q5 := Lib.hid hq5
  have W5 := Lib.hid hw5
  obtain ⟨A5, c5, rfl, -, hr5⟩ := hs5.rw
  have hl5 : q5.length = L.length := by rw [← hq5, List.length_map]
  rw [hl5, hq5] at hr5
  rw [hl5]
  rw [hl5] at S5
  have R5 := Lib.hid hr5
  have hLb : L.length ≤ 140737488355328 := by
    have h1 := len_sumL L
    rw [← HI.out.lenL] at h1
    have h2 := HI.out.fit
    have h3 := hlf_two (show 1 ≤ n by have := HN4.out; omega)
    have h4 : Z.length ≤ 65536 := D2.out.few
    have := HIN.out
    omega
  have HLB := Lib.hid hLb
  obtain ⟨⟨c0, c1, c2, c3, c4, c5'⟩, hfz⟩ := play_at (KX.out w5 B5.out)
  clear hb5 hw5 hf5 hm5 hs5 hq5 hr5 hl5 hLb
  obtain ⟨Ak, ck, rfl, -, hkr⟩ := HK.out
  obtain ⟨Ao, co, rfl, -, hor⟩ := HO.out
  have FN2 : Hid (Fr N w w2) := F2.out.wide fun k h => HN.out k (.inl h)
  have RK := Lib.hid (fun W (hW : Below w2.heap.size w2 W) => hkr W (FN2.out.trans (Fr.of_below hW) (Grew.refl _ _)))
  have RO := Lib.hid (fun W (hW : Below w2.heap.size w2 W) => hor W (FN2.out.trans (Fr.of_below hW) (Grew.refl _ _)))
  have CS1 := Lib.hid (rsameR_any A5 Ak L.length c5 K.length ck w5.heap.size L K w5 R5.out ((RK.out w5 B5.out).moreB (Nat.le_trans FN2.out.size B5.out.size)) (Nat.le_refl _) HLB.out)
  have CS2 := Lib.hid (fun W (hW : Below w5.heap.size w5 W) => rsameR_any A5 Ao L.length c5 Ko.length co W.heap.size L Ko W ((R5.out.belowB hW).moreB hW.size) ((RO.out W (B5.out.trans (hW.mono B5.out.size))).moreB (Nat.le_trans FN2.out.size (Nat.le_trans B5.out.size hW.size))) (Nat.le_refl _) HLB.out)
  clear hkr hor
  have HEND : Hid (∀ W, Below w5.heap.size w5 W → AgnR w0 w gp a n Z N (.returned (.tuple #[])) ((W.setCell ⟨gp, 1, none⟩ (.pointer (some ⟨gw5, 0, none⟩))).setCell ⟨gp, 4, none⟩ (.slice A5 L.length c5))) := fun W hW => by
    have hW2 : Below w2.heap.size w2 W := B5.out.trans (hW.mono B5.out.size)
    have hgp2 : gp < w2.heap.size := (Array.getElem?_eq_some_iff.1 R2.out).1
    obtain ⟨w8, hw8⟩ : ∃ w8, w8 = (W.setCell ⟨gp, 1, none⟩ (.pointer (some ⟨gw5, 0, none⟩))).setCell ⟨gp, 4, none⟩ (.slice A5 L.length c5) := ⟨_, rfl⟩
    rw [← hw8]
    have hne : ∀ k, k ≠ gp → w8.heap[k]? = W.heap[k]? := fun k hk => by rw [hw8]; exact (Below.heap_setCell _ _ _ _ hk).trans (Below.heap_setCell _ _ _ _ hk)
    have hb8 : Below gp W w8 := by rw [hw8]; exact (Below.setCell (Below.refl gp W) (p := ⟨gp, 1, none⟩) (Nat.le_refl gp) _).setCell (p := ⟨gp, 4, none⟩) (Nat.le_refl gp) _
    have R8 : w8.heap[gp]? = some (.cells (plyC gd gw5 a n (.slice A5 L.length c5) true) 31 (0, 0)) := by rw [hw8]; exact row_setC (row_setC (KX.out W hW2) 1 _) 4 _
    have hft : ∀ k, FtR (.slice A5 L.length c5) q5 k → mid ≤ k := fun k hk => (S5.out.own_ge hk).1
    have hgm : gp < mid := Nat.lt_of_lt_of_le hgp2 HM5.out
    have S8 : ScS w8 mid (.slice A5 L.length c5) q5 := (S5.out.below hW).same (fun b hb => hne b (by have := hft b (.inl hb); omega)) (fun q hq b hb => hne b (by have := hft b (.inr ⟨q, hq, hb⟩); omega))
    have hgw : ¬ Fw5 gp := fun h => by have := (HF5.out gp h).1; omega
    have hK8 := KpR.of (N := fun k => Fd k ∨ Fw5 k ∨ k = gp) S8 (fun k hk h => by
      have h1 := hft k hk
      rcases h with h | h | h
      · have h2 := (D2.out.fit k h).2
        have h3 := HM5.out
        omega
      · have := (HF5.out k h).2; omega
      · omega)
    rw [Q5.out] at hK8
    have hs8 : W.heap.size ≤ w8.heap.size := hb8.size
    refine ⟨rfl, t, len, L, fun k => Fd k ∨ Fw5 k ∨ k = gp, ⟨gd, gw5, Fd, Fw5, .slice A5 L.length c5, ?_, ((D2.out.below hW2).same hs8 fun k hk => hne k fun e => HND.out (e ▸ hk)), ((W5.out.below hW).same hs8 fun k hk => hne k fun e => hgw (e ▸ hk)), fun k h1 h2 => ?_, R8, (HN2.out gp (HN.out gp (.inr rfl))).1, HND.out, hgw, hK8, HI.out, HIN.out, HN4.out, fun k h => h, fun k hk => ?_⟩, ?_, fun k hk => ?_⟩
    · exact (B2.out.trans (hW2.mono B2.out.size)).trans (hb8.mono (HN2.out gp (HN.out gp (.inr rfl))).1)
    · have := (D2.out.fit k h1).2
      have := (HF5.out k h2).1
      omega
    · have hs2 := hW2.size
      rcases hk with hk | hk | rfl
      · have := D2.out.fit k hk; omega
      · have := W5.out.fit k hk
        have := hW.size
        omega
      · exact ⟨(HN2.out _ (HN.out _ (.inr rfl))).1, by omega⟩
    · exact (FN2.out.trans (Fr.of_below hW2) (Grew.refl _ _)).low hb8 hne (.inl (HN.out gp (.inr rfl)))
    · rcases hk with hk | hk | rfl
      · exact .inl (HN.out k (.inl hk))
      · have h1 := (HF5.out k hk).1
        exact .inr (Nat.le_trans F2.out.size h1)
      · exact .inl (HN.out _ (.inr rfl))
  have KE : Hid (∀ W, Below w5.heap.size w5 W → W.cell? ⟨gp, 1, none⟩ = some (.pointer (some ⟨gw, 0, none⟩)) ∧ W.cell? ⟨gp, 4, none⟩ = some (.slice Ak K.length ck) ∧ W.frozen? ⟨gp, 1, none⟩ = false ∧ W.frozen? ⟨gp, 4, none⟩ = false) := fun W hW => by
    obtain ⟨⟨x0, x1, x2, x3, x4, x5⟩, xf⟩ := play_at (KX.out W (B5.out.trans (hW.mono B5.out.size)))
    exact ⟨x1, x4, xf 1, xf 4⟩
  by_cases hLK : L = K
  · have HLK := Lib.hid hLK
    clear hLK
    go_wp2_with (first
      | (go_at_call 24; refine CS1.out.mono ?_; rintro e w6 ⟨r6, rfl, hr6, hb6⟩; obtain rfl : r6 = true := hr6.2 HLK.out; have B6 := Lib.hid hb6; clear hr6 hb6 c1 c4; obtain ⟨c1, c4, f1, f4⟩ := KE.out w6 B6.out)
      | fail)
    refine bodyPost_end (v := .tuple #[]) (by simp [results, Tryd.results11]) rfl ?_
    exact HEND.out w6 B6.out
  have HLO : Hid (L = Ko) := by
    rcases HL.out with h | h
    · exact absurd h hLK
    · exact h
  have HLK := Lib.hid hLK
  clear hLK
  go_wp2_with (first
    | (have qq := B6; clear qq; go_at_call 24; refine (CS2.out _ B6.out).mono ?_; rintro e w7 ⟨r7, rfl, hr7, hb7⟩; obtain rfl : r7 = true := hr7.2 HLO.out; have B7 := Lib.hid (B6.out.trans (hb7.mono B6.out.size)); clear hr7 hb7; obtain ⟨c1, c4, f1, f4⟩ := KE.out w7 B7.out)
    | (go_at_call 24; refine CS1.out.mono ?_; rintro e w6 ⟨r6, rfl, hr6, hb6⟩; have hrf : r6 = false := (by cases r6 with | true => exact absurd (hr6.1 rfl) HLK.out | false => rfl); subst hrf; have B6 := Lib.hid hb6; clear hr6 hb6 c1 c4)
    | fail)
  refine bodyPost_end (v := .tuple #[]) (by simp [results, Tryd.results11]) rfl ?_
  exact HEND.out w7 B7.out
end Go.Proofs.YtahgaogmcffglaaDoor
/- Layer 15's law: change. -/
namespace Go.Proofs.YtahgaogmcffglaaDoor
open Go.RowKit

theorem below_same {B : Nat} {w W : World} {gp gd gw a n : Nat} {vk : Value} (hb : Below B w W) (hr : W.heap[gp]? = some (.cells (plyC gd gw a n vk true) 31 (0, 0))) : Below B w (W.setCell ⟨gp, 5, none⟩ (.bool true)) :=
  ⟨hb.os, hb.tape, hb.output, by rw [World.size_setCell]; exact hb.size, fun k hk => by
    by_cases e : k = gp
    · subst e
      rw [row_setC hr 5 (.bool true)]
      exact hr.symm.trans (hb.block k hk)
    · exact (Below.heap_setCell _ _ _ _ e).trans (hb.block k hk)⟩
/-- A call, as a value. -/
def opV (x : OpW) : Value := .agg #[.int .i64 x.kind, .int .i64 x.r.typ, .slice x.ra x.rn x.rc, .slice x.la x.ln x.lc, .int .i64 x.at_, .slice x.ka x.kn x.kc]
def opC (x : OpW) : Array Value := #[.int .i64 x.kind, .int .i64 x.r.typ, .slice x.ra x.rn x.rc, .slice x.la x.ln x.lc, .int .i64 x.at_, .slice x.ka x.kn x.kc]
theorem op_at {w : World} {b : Nat} {x : OpW} (h : w.heap[b]? = some (.cells (opC x) 38 (0, 0))) : w.cell? ⟨b, 0, none⟩ = some (.int .i64 x.kind) ∧ w.cell? ⟨b, 1, none⟩ = some (.int .i64 x.r.typ) ∧ w.cell? ⟨b, 2, none⟩ = some (.slice x.ra x.rn x.rc) ∧ w.cell? ⟨b, 3, none⟩ = some (.slice x.la x.ln x.lc) ∧ w.cell? ⟨b, 4, none⟩ = some (.int .i64 x.at_) ∧ w.cell? ⟨b, 5, none⟩ = some (.slice x.ka x.kn x.kc) := by
  refine ⟨?_, ?_, ?_, ?_, ?_, ?_⟩ <;> (rw [cell_of_row w b _ _ _ _ h]; rfl)
section
variable {w : World} {gp gd gw a n : Nat} {vk vt : Value} {N : Nat → Prop} {T : List Rcd} (x : OpW)
set_option maxRecDepth 100000 in
set_option maxHeartbeats 8000000 in
/-- A record that may not be. -/
theorem chg_rec (fits : Bool) (hrow : w.heap[gp]? = some (.cells (plyC gd gw a n vk true) 31 (0, 0))) (hT : KpR w N vt T) (hl : T.length ≤ 1000000) (hs : szL T = -1) :
    Calls Tryd.prog 26 #[.pointer (some ⟨gp, 0, none⟩), .int .i64 140, opV x, vt, .bool fits] w fun e w' => e = .returned (.tuple #[]) ∧ Below w.heap.size w w' := by
  obtain ⟨A, c, rfl, -, hr⟩ := hT
  obtain ⟨w1, hw1⟩ : ∃ w1, w1 = w.alloc (.cells (opC x) 38) := ⟨_, rfl⟩
  have B1 : Hid (Below w.heap.size w w1) := by show Below _ _ _; rw [hw1]; exact (Below.refl _ _).alloc (Nat.le_refl _) _
  have CZ := Lib.hid (rsizes_any A T.length c w.heap.size T w1 (hr w1 (Fr.of_below B1.out)) B1.out.size (Nat.le_trans hl (by decide)))
  rw [hs] at CZ
  have HW1 := Lib.hid hw1
  have HR := Lib.hid (fun W (hW : Below w.heap.size w W) => (hW.block gp (Array.getElem?_eq_some_iff.1 hrow).1).trans hrow)
  clear hr hw1 hl hs hrow
  unfold opV
  unfold opC at HW1
  go_enter Tryd.func26, Tryd.ntmps26
  go_upto_region 2 with fail
  rw [← HW1.out]
  go_wp2_with (first
    | (go_at_call 27; refine CZ.out.mono ?_; rintro e w2 ⟨rfl, hb2⟩; have B2 := Lib.hid (B1.out.trans (hb2.mono B1.out.size)); clear hb2; obtain ⟨⟨x0, x1, x2, x3, x4, x5⟩, xf⟩ := play_at (HR.out w2 B2.out); have f5 := xf 5; clear xf)
    | fail)
  refine bodyPost_end (v := .tuple #[]) (by simp [results, Tryd.results26]) rfl ?_
  exact ⟨rfl, below_same B2.out (HR.out w2 B2.out)⟩
set_option maxRecDepth 100000 in
set_option maxHeartbeats 8000000 in
/-- What did not fit. -/
theorem chg_full (hrow : w.heap[gp]? = some (.cells (plyC gd gw a n vk true) 31 (0, 0))) (hT : KpR w N vt T) (hl : T.length ≤ 1000000) (hs : ∀ r ∈ T, rokR r = true) :
    Calls Tryd.prog 26 #[.pointer (some ⟨gp, 0, none⟩), .int .i64 150, opV x, vt, .bool false] w fun e w' => e = .returned (.tuple #[]) ∧ Below w.heap.size w w' := by
  obtain ⟨A, c, rfl, -, hr⟩ := hT
  obtain ⟨w1, hw1⟩ : ∃ w1, w1 = w.alloc (.cells (opC x) 38) := ⟨_, rfl⟩
  have B1 : Hid (Below w.heap.size w w1) := by show Below _ _ _; rw [hw1]; exact (Below.refl _ _).alloc (Nat.le_refl _) _
  have CZ := Lib.hid (rsizes_any A T.length c w.heap.size T w1 (hr w1 (Fr.of_below B1.out)) B1.out.size (Nat.le_trans hl (by decide)))
  rw [szL_ok hs] at CZ
  have h0 : ¬ ((sumL T : Nat) : Int) < 0 := by omega
  have HW1 := Lib.hid hw1
  have HR := Lib.hid (fun W (hW : Below w.heap.size w W) => (hW.block gp (Array.getElem?_eq_some_iff.1 hrow).1).trans hrow)
  clear hr hw1 hl hs hrow
  unfold opV
  unfold opC at HW1
  go_enter Tryd.func26, Tryd.ntmps26
  go_upto_region 2 with fail
  rw [← HW1.out]
  go_wp2_with (first
    | (go_at_call 27; refine CZ.out.mono ?_; rintro e w2 ⟨rfl, hb2⟩; have B2 := Lib.hid (B1.out.trans (hb2.mono B1.out.size)); clear hb2; obtain ⟨⟨x0, x1, x2, x3, x4, x5⟩, xf⟩ := play_at (HR.out w2 B2.out); have f5 := xf 5; clear xf)
    | fail)
  refine bodyPost_end (v := .tuple #[]) (by simp [results, Tryd.results26]) rfl ?_
  exact ⟨rfl, below_same B2.out (HR.out w2 B2.out)⟩
set_option maxRecDepth 100000 in
set_option maxHeartbeats 8000000 in
/-- What was kept. -/
theorem chg_ok (fits : Bool) (hrow : w.heap[gp]? = some (.cells (plyC gd gw a n vk true) 31 (0, 0))) (hT : KpR w N vt T) (hl : T.length ≤ 1000000) (hs : ∀ r ∈ T, rokR r = true) :
    Calls Tryd.prog 26 #[.pointer (some ⟨gp, 0, none⟩), .int .i64 0, opV x, vt, .bool fits] w fun e w' => e = .returned (.tuple #[]) ∧ w'.heap[gp]? = some (.cells (plyC gd gw a n vt true) 31 (0, 0)) ∧ Fr (fun k => k = gp) w w' := by
  obtain ⟨A, c, rfl, -, hr⟩ := hT
  obtain ⟨w1, hw1⟩ : ∃ w1, w1 = w.alloc (.cells (opC x) 38) := ⟨_, rfl⟩
  have B1 : Hid (Below w.heap.size w w1) := by show Below _ _ _; rw [hw1]; exact (Below.refl _ _).alloc (Nat.le_refl _) _
  have CZ := Lib.hid (rsizes_any A T.length c w.heap.size T w1 (hr w1 (Fr.of_below B1.out)) B1.out.size (Nat.le_trans hl (by decide)))
  rw [szL_ok hs] at CZ
  have h0 : ¬ ((sumL T : Nat) : Int) < 0 := by omega
  obtain ⟨tl, htl⟩ : ∃ tl, tl = T.length := ⟨_, rfl⟩
  have HW1 := Lib.hid hw1
  have HR := Lib.hid (fun W (hW : Below w.heap.size w W) => (hW.block gp (Array.getElem?_eq_some_iff.1 hrow).1).trans hrow)
  rw [← htl] at CZ
  rw [← htl]
  clear hr hw1 hl hs hrow htl
  unfold opV
  unfold opC at HW1
  go_enter Tryd.func26, Tryd.ntmps26
  go_upto_region 2 with fail
  rw [← HW1.out]
  go_wp2_with (first
    | (go_at_call 27; refine CZ.out.mono ?_; rintro e w2 ⟨rfl, hb2⟩; have B2 := Lib.hid (B1.out.trans (hb2.mono B1.out.size)); clear hb2; obtain ⟨⟨x0, x1, x2, x3, x4, x5⟩, xf⟩ := play_at (HR.out w2 B2.out); have f4 := xf 4; clear xf)
    | fail)
  refine bodyPost_end (v := .tuple #[]) (by simp [results, Tryd.results26]) rfl ?_
  exact ⟨rfl, row_setC (HR.out w2 B2.out) 4 _, (Fr.of_below B2.out : Fr (fun k => k = gp) w w2).setCell (p := ⟨gp, 4, none⟩) (.inl rfl) _⟩
set_option maxRecDepth 100000 in
set_option maxHeartbeats 4000000 in
theorem dAppend_any (t : Int) (A : Option Addr) (m c : Nat) (w : World) {F : Nat → Prop} {B g gd : Nat} {S : Ws} (h : WlK w F B g gd S) (hd : S.dead = true) : Calls Tryd.prog 17 #[.pointer (some ⟨g, 0, none⟩), .agg #[.int .i64 t, .slice A m c]] w fun e w' => e = .returned (.int .i64 131) ∧ Below w.heap.size w w' := by
  obtain ⟨w1, hw1⟩ : ∃ w1, w1 = w.alloc (.cells #[.int .i64 t, .slice A m c] 35) := ⟨_, rfl⟩
  have B1 : Hid (Below w.heap.size w w1) := by show Below _ _ _; rw [hw1]; exact (Below.refl _ _).alloc (Nat.le_refl _) _
  have C1 := wruns_any w1 (h.below B1.out)
  have hu : S.run = 131 := by simp [Ws.run, hd]
  rw [hu] at C1
  have C1 := Lib.hid C1
  have HW1 := Lib.hid hw1
  clear h hw1 hd hu
  go_enter Tryd.func17, Tryd.ntmps17
  go_upto_region 1 with fail
  rw [← HW1.out]
  go_wp2_with fail
  refine C1.out.mono ?_
  rintro e w2 ⟨rfl, rfl⟩
  go_wp2_with fail
  go_ret
  exact ⟨rfl, B1.out⟩
set_option maxRecDepth 100000 in
set_option maxHeartbeats 16000000 in
/-- The power went. -/
theorem chg_dead (X : Snt14) (w0 : World) (fits : Bool) {Fd Fw : Nat → Prop} {D : Cd} {Sd : Ws} {K : List Rcd} {t0 len0 t1 len1 : Nat}
    (hA : ∀ W, Below w0.heap.size w0 W → Lds14 X W) (hb : Below w0.heap.size w0 w) (hd : CDk w Fd w0.heap.size gd D) (hws : D.waits.length ≤ 1000000) (hw : WlK w Fw w0.heap.size gw gd Sd) (hdead : Sd.dead = true)
    (hrow : w.heap[gp]? = some (.cells (plyC gd gw a n vk true) 31 (0, 0))) (hnd : ¬ Fd gp) (hN : ∀ k, Fd k ∨ k = gp → N k) (hN2 : ∀ k, N k → w0.heap.size ≤ k ∧ k < w.heap.size)
    (hk : KpR w N vk K) (hT : KpR w N vt T) (hl : T.length ≤ 1000000) (hs : ∀ r ∈ T, rokR r = true) (hx : Rz15 w0 x.ka x.kn x.keep)
    (hI : InZ a n (tornW D.secs D.waits x.keep) t0 len0 K ∨ InZ a n (tornW D.secs D.waits x.keep) t1 len1 T) (hin : a + n ≤ D.secs.length) (hn4 : 4 ≤ n) :
    Calls Tryd.prog 26 #[.pointer (some ⟨gp, 0, none⟩), .int .i64 131, opV x, vt, .bool fits] w (AgnR w0 w gp a n (tornW D.secs D.waits x.keep) N) := by
  obtain ⟨A, c, rfl, hlc, hr⟩ := hT
  obtain ⟨w1, hw1⟩ : ∃ w1, w1 = w.alloc (.cells (opC x) 38) := ⟨_, rfl⟩
  have B1 : Hid (Below w.heap.size w w1) := by show Below _ _ _; rw [hw1]; exact (Below.refl _ _).alloc (Nat.le_refl _) _
  have HBX : Hid (w1.heap[w.heap.size]? = some (.cells (opC x) 38 (0, 0))) := by show _ = _; rw [hw1]; exact heap_alloc_new w _
  have CZ := Lib.hid (rsizes_any A T.length c w.heap.size T w1 (hr w1 (Fr.of_below B1.out)) B1.out.size (Nat.le_trans hl (by decide)))
  rw [szL_ok hs] at CZ
  have h0 : ¬ ((sumL T : Nat) : Int) < 0 := by omega
  obtain ⟨tl, htl⟩ : ∃ tl, tl = T.length := ⟨_, rfl⟩
  have HW1 := Lib.hid hw1
  have HR := Lib.hid (fun W (hW : Below w.heap.size w W) => (hW.block gp (Array.getElem?_eq_some_iff.1 hrow).1).trans hrow)
  have CA := Lib.hid (fun W (hW : Below w.heap.size w W) => dAppend_any 1 none 0 0 W (hw.below hW) hdead)
  have CG := Lib.hid (fun W (hW : Below w.heap.size w W) => again_any X w0 W (gp := gp) (gd := gd) (gw := gw) (A := x.ka) (m := x.kn) (c := x.kc) (ks := x.keep) (N := N) (vk := vk) (vo := .slice A T.length c) (K := K) (Ko := T) hA (hb.trans (hW.mono hb.size)) (hd.below hW) hws (HR.out W hW) hnd hN (fun k hk => ⟨(hN2 k hk).1, Nat.lt_of_lt_of_le (hN2 k hk).2 hW.size⟩) (hk.below hW) (KpR.below ⟨A, c, rfl, hlc, hr⟩ hW) hx.1 (fun h => by
    obtain ⟨b, o, e, hj⟩ := hx.2 h
    refine ⟨b, o, e, ?_, hj⟩
    obtain ⟨y, hy⟩ : ∃ y, x.keep[0]? = some y := ⟨_, List.getElem?_eq_getElem (by rw [← hx.1]; exact h)⟩
    exact World.block_lt_of_cell? w0 ⟨b, o + 0, none⟩ (hj 0 y hy)) hI hin hn4)
  rw [← htl] at CZ CG
  rw [← htl]
  clear hA hb hd hws hw hdead hrow hnd hN hN2 hk hr hl hs hx hI hin hn4 hw1 hlc htl
  unfold opV
  go_enter Tryd.func26, Tryd.ntmps26
  unfold opC at HW1
  go_upto_region 2 with fail
  rw [← HW1.out]
  go_upto_region 10 with (first
    | (go_at_call 27; refine CZ.out.mono ?_; rintro e w2 ⟨rfl, hb2⟩; have D2 := Lib.hid hb2; have B2 := Lib.hid (B1.out.trans (hb2.mono B1.out.size)); clear hb2; obtain ⟨⟨x0, x1, x2, x3, x4, x5⟩, -⟩ := play_at (HR.out w2 B2.out))
    | (go_at_call 17; refine (CA.out w2 B2.out).mono ?_; rintro e w3 ⟨rfl, hb3⟩; have D3 := Lib.hid (D2.out.trans (hb3.mono D2.out.size)); have B3 := Lib.hid (B2.out.trans (hb3.mono B2.out.size)); clear hb3 x0 x1 x2 x3 x4 x5; obtain ⟨⟨x0, x1, x2, x3, x4, x5⟩, xf⟩ := play_at (HR.out w3 B3.out); have f5 := xf 5; clear xf)
    | fail)
  obtain ⟨w4, hw4⟩ : ∃ w4, w4 = w3.setCell ⟨gp, 5, none⟩ (.bool true) := ⟨_, rfl⟩
  have B4 : Hid (Below w.heap.size w w4) := by show Below _ _ _; rw [hw4]; exact below_same B3.out (HR.out w3 B3.out)
  have D4 : Hid (Below w1.heap.size w1 w4) := by show Below _ _ _; rw [hw4]; exact below_same D3.out (HR.out w3 B3.out)
  obtain ⟨-, -, -, -, -, y5⟩ := op_at ((D4.out.block _ (Array.getElem?_eq_some_iff.1 HBX.out).1).trans HBX.out)
  rw [← hw4]
  clear hw4 x0 x1 x2 x3 x4 x5 f5
  go_wp2_with fail
  refine (CG.out w4 B4.out).mono ?_
  rintro e w5 ⟨rfl, t, len, K', N', hP, hF, hG⟩
  have HE := Lib.hid (And.intro hP (And.intro hF hG))
  clear hP hF hG
  go_wp2_with fail
  refine bodyPost_end (v := .tuple #[]) (by simp [results, Tryd.results26]) rfl ?_
  exact ⟨rfl, t, len, K', N', HE.out.1, (Fr.of_below B4.out : Fr N w w4).trans HE.out.2.1 (Grew.refl _ _), (Grew.refl w N).trans HE.out.2.2 B4.out.size⟩
end
end Go.Proofs.YtahgaogmcffglaaDoor
/- Layer 15's law: do. (Made by gen/WnH.py.) -/
namespace Go.Proofs.YtahgaogmcffglaaDoor
open Go.RowKit

/-- What do leaves. -/
def DoR (w0 w : World) (gp a n : Nat) (Z : List (List UInt8)) (N : Nat → Prop) (e : Ending) (w' : World) : Prop :=
  e = .returned (.tuple #[]) ∧ ∃ Z' lf' t' len' K' N', Ply w0 w' gp a n Z' lf' t' len' K' N' ∧ OutZ a n Z Z' ∧ Fr N w w' ∧ Grew w N N'
theorem few_of {a n t len : Nat} {L : List Rcd} {Z : List (List UInt8)} (hI : InZ a n Z t len L) (hn : 4 ≤ n) (hin : a + n ≤ Z.length) (hZ : Z.length ≤ 65536) : L.length ≤ 900000 := by
  have h1 := len_sumL7 L
  have h2 := hlf_two (show 1 ≤ n by omega)
  have h3 := hI.fit
  rw [← hI.lenL] at h1
  omega
section
variable {w0 w : World} {gp a n : Nat} {Z : List (List UInt8)} {lf : Int} {t len : Nat} {K : List Rcd} {N : Nat → Prop} (x : OpW)
set_option maxRecDepth 100000 in
set_option maxHeartbeats 16000000 in
theorem do_other (X : Snt14) (hA : ∀ W, Below w0.heap.size w0 W → Lds14 X W) (hP : Ply w0 w gp a n Z lf t len K N) (hx : x.ok w0) (h0 : x.kind ≠ 0) (h1 : x.kind ≠ 1) (h2 : x.kind ≠ 2) (h3 : x.kind ≠ 3) :
    Calls Tryd.prog 10 #[.pointer (some ⟨gp, 0, none⟩), opV x] w (DoR w0 w gp a n Z N) := by
  have HP := Lib.hid hP
  obtain ⟨gd, gw, Fd, Fw, vk, hb, hd, hw, hdis, hrow, hgp, hnd, hnw, hk, hI, hin, hn4, hNs, hN2⟩ := hP
  have hZ : Z.length ≤ 65536 := hd.few
  obtain ⟨wb, hwb⟩ : ∃ wb, wb = w.alloc (.cells (opC x) 38) := ⟨_, rfl⟩
  have BB : Hid (Below w.heap.size w wb) := by show Below _ _ _; rw [hwb]; exact (Below.refl _ _).alloc (Nat.le_refl _) _
  have HBX : Hid (wb.heap[w.heap.size]? = some (.cells (opC x) 38 (0, 0))) := by show _ = _; rw [hwb]; exact heap_alloc_new w _
  have HWB := Lib.hid hwb
  have CM := wRoom_any wb (hw.below BB.out) (fun _ => ⟨by show 1 ≤ n; omega, by show n ≤ 65536; omega, hI.fit⟩)
  have hroom : Ws.room ⟨a, n, t, len, K, false⟩ = ((hlf n * 64 : Nat) : Int) - (len : Int) := rfl
  rw [hroom] at CM
  have CM := Lib.hid CM
  have ZR : Hid (∀ V, Below w.heap.size w V → V.heap[gp]? = some (.cells (plyC gd gw a n vk true) 31 (0, 0))) := fun V hV => (hV.block gp (Array.getElem?_eq_some_iff.1 hrow).1).trans hrow
  have ZX := Lib.hid (fun V (hV : Below wb.heap.size wb V) => op_at ((hV.block _ (Array.getElem?_eq_some_iff.1 HBX.out).1).trans HBX.out))
  have HB := Lib.hid hb
  have HD := Lib.hid hd
  have HW := Lib.hid hw
  have HDI := Lib.hid hdis
  have HGP := Lib.hid (And.intro hgp (And.intro hnd hnw))
  have HK := Lib.hid hk
  have HI := Lib.hid hI
  have HIN := Lib.hid hin
  have HN4 := Lib.hid hn4
  have HNS := Lib.hid hNs
  have HN2 := Lib.hid hN2
  have HZ := Lib.hid hZ
  have HA := Lib.hid hA
  have HX := Lib.hid hx
  obtain ⟨⟨p0, p1, p2, p3, p4, p5⟩, -⟩ := play_at (ZR.out wb BB.out)
  clear hb hd hw hdis hrow hgp hnd hnw hk hI hin hn4 hNs hN2 hZ hwb hroom hA hx
  unfold opV
  unfold opC at HWB
  have e0 : (x.kind == 0) = false := beq_eq_false_iff_ne.2 h0
  have e1 : (x.kind == 1) = false := beq_eq_false_iff_ne.2 h1
  have e2 : (x.kind == 2) = false := beq_eq_false_iff_ne.2 h2
  have e3 : (x.kind == 3) = false := beq_eq_false_iff_ne.2 h3
  clear h0 h1 h2 h3
  go_enter Tryd.func10, Tryd.ntmps10
  go_upto_region 1 with fail
  rw [← HWB.out]
  go_upto_region 2 with (first
    | (go_at_call 16; refine CM.out.mono ?_; rintro e w2 ⟨rfl, hb2⟩; have D2 := Lib.hid hb2; have B2 := Lib.hid (BB.out.trans (hb2.mono BB.out.size)); clear hb2)
    | fail)
  obtain ⟨x0, x1, x2, x3, x4, x5⟩ := ZX.out w2 D2.out
  clear p0 p1 p2 p3 p4 p5
  obtain ⟨Zz, hZz⟩ : ∃ Zz, Zz = Z := ⟨_, rfl⟩
  obtain ⟨lz, hlz⟩ : ∃ lz, lz = lf := ⟨_, rfl⟩
  obtain ⟨tz, htz⟩ : ∃ tz, tz = t := ⟨_, rfl⟩
  obtain ⟨nz, hnz⟩ : ∃ nz, nz = len := ⟨_, rfl⟩
  obtain ⟨Kz, hKz⟩ : ∃ Kz, Kz = K := ⟨_, rfl⟩
  obtain ⟨Nz, hNz⟩ : ∃ Nz, Nz = N := ⟨_, rfl⟩
  have HPL : Hid (Ply w0 w2 gp a n Zz lz tz nz Kz Nz) := by rw [hZz, hlz, htz, hnz, hKz, hNz]; exact HP.out.below B2.out
  have HF2 : OutZ a n Z Zz ∧ Fr N w w2 ∧ Grew w N Nz := by rw [hZz, hNz]; exact ⟨OutZ.refl HD.out.wide, Fr.of_below B2.out, Grew.refl _ _⟩
  clear hZz hlz htz hnz hKz hNz
  have HPZ := HPL
  have HFZ := Lib.hid (HF2)
  obtain ⟨gdz, gwz, Fdz, Fwz, vkz, qb, qd, qw, qdis, qrow, qgp, qnd, qnw, qk, qI, qin, qn4, qNs, qN2⟩ := HPZ.out
  have YR : Hid (∀ V, Below w2.heap.size w2 V → V.heap[gp]? = some (.cells (plyC gdz gwz a n vkz true) 31 (0, 0))) := fun V hV => (hV.block gp (Array.getElem?_eq_some_iff.1 qrow).1).trans qrow
  have CAL : Hid (∀ V, Below w2.heap.size w2 V → Calls Tryd.prog 29 #[.pointer (some ⟨gdz, 0, none⟩)] V fun e w' => e = .returned (.bool true) ∧ V = w') := fun V hV => calive_any V (qd.below hV)
  obtain ⟨Az, cz, rfl, -, hkz⟩ := qk
  have CRC : Hid (∀ V, Below w2.heap.size w2 V → Calls Tryd.prog 22 #[.pointer (some ⟨gwz, 0, none⟩)] V (RcsR Kz V)) := fun V hV => wRecords_any V (qw.below hV)
  have hkl := few_of qI qn4 qin qd.few
  have CSM := Lib.hid (fun V (hV : Below w2.heap.size w2 V) (A : Option Addr) (c : Nat) (hr : RwC V V.heap.size A Kz.length Kz) => rsameR_any A Az Kz.length c Kz.length cz V.heap.size Kz Kz V hr ((hkz V (Fr.of_below hV)).moreB hV.size) (Nat.le_refl _) (Nat.le_trans hkl (by decide)))
  unfold RcsR at CRC
  clear qb qd qw qdis qrow qgp qnd qnw qI qin qn4 qNs qN2 hkz hkl
  have KS : Hid (∀ V, Below w2.heap.size w2 V → V.cell? ⟨gp, 0, none⟩ = some (.pointer (some ⟨gdz, 0, none⟩)) ∧ V.cell? ⟨gp, 1, none⟩ = some (.pointer (some ⟨gwz, 0, none⟩)) ∧ V.cell? ⟨gp, 4, none⟩ = some (.slice Az Kz.length cz) ∧ V.cell? ⟨gp, 5, none⟩ = some (.bool true) ∧ V.frozen? ⟨gp, 5, none⟩ = false) := fun V hV => by
    obtain ⟨⟨y0, y1, y2, y3, y4, y5⟩, yf⟩ := play_at (YR.out V hV)
    exact ⟨y0, y1, y4, y5, yf 5⟩
  go_upto_region 20 with fail
  go_region_held3 (fun V => V.cell? ⟨gp, 0, none⟩ = some (.pointer (some ⟨gdz, 0, none⟩)) ∧ V.cell? ⟨gp, 1, none⟩ = some (.pointer (some ⟨gwz, 0, none⟩)) ∧ V.cell? ⟨gp, 4, none⟩ = some (.slice Az Kz.length cz) ∧ V.cell? ⟨gp, 5, none⟩ = some (.bool true) ∧ V.frozen? ⟨gp, 5, none⟩ = false)
    (first | (with_reducible exact KS.out _ (below_same E9.out (YR.out _ E9.out))) | (with_reducible exact KS.out _ E9.out) | (with_reducible exact KS.out _ E8.out) | (with_reducible exact KS.out _ (Below.refl _ _).drew) | fail)
    (first
      | (go_at_call 29; refine (CAL.out _ (Below.refl _ _).drew).mono ?_; rintro e wx ⟨rfl, rfl⟩)
      | (go_at_call 22; refine (CRC.out _ (Below.refl _ _).drew).mono ?_; rintro e u8 ⟨hb8, v8, q8, rfl, hs8, hq8⟩; have hl8 : q8.length = Kz.length := (by rw [← hq8, List.length_map]); obtain ⟨A8, c8, rfl, -, hr8⟩ := hs8.rw; rw [hl8, hq8] at hr8; rw [hl8]; have R8 := Lib.hid hr8; have E8 := Lib.hid ((Below.refl w2.heap.size w2).drew.trans hb8); clear hb8 hs8 hq8 hr8 hl8)
      | (go_at_call 24; refine (CSM.out _ E8.out A8 c8 R8.out).mono ?_; rintro e u9 ⟨r9, rfl, hr9, hb9⟩; obtain rfl : r9 = true := (by simpa using hr9); have E9 := Lib.hid (E8.out.trans (hb9.mono E8.out.size)); clear hr9 hb9)
      | fail)
  refine bodyPost_end (v := .tuple #[]) (by simp [results, Tryd.results10]) rfl ?_
  have hEZ := below_same E9.out (YR.out _ E9.out)
  exact ⟨rfl, Zz, lz, tz, nz, Kz, Nz, HPZ.out.below hEZ, HFZ.out.1, HFZ.out.2.1.trans (Fr.of_below hEZ) HFZ.out.2.2, HFZ.out.2.2⟩
set_option maxRecDepth 100000 in
set_option maxHeartbeats 16000000 in
theorem do_arm (X : Snt14) (hA : ∀ W, Below w0.heap.size w0 W → Lds14 X W) (hP : Ply w0 w gp a n Z lf t len K N) (hx : x.ok w0) (h3 : x.kind = 3) :
    Calls Tryd.prog 10 #[.pointer (some ⟨gp, 0, none⟩), opV x] w (DoR w0 w gp a n Z N) := by
  have HP := Lib.hid hP
  obtain ⟨gd, gw, Fd, Fw, vk, hb, hd, hw, hdis, hrow, hgp, hnd, hnw, hk, hI, hin, hn4, hNs, hN2⟩ := hP
  have hZ : Z.length ≤ 65536 := hd.few
  obtain ⟨wb, hwb⟩ : ∃ wb, wb = w.alloc (.cells (opC x) 38) := ⟨_, rfl⟩
  have BB : Hid (Below w.heap.size w wb) := by show Below _ _ _; rw [hwb]; exact (Below.refl _ _).alloc (Nat.le_refl _) _
  have HBX : Hid (wb.heap[w.heap.size]? = some (.cells (opC x) 38 (0, 0))) := by show _ = _; rw [hwb]; exact heap_alloc_new w _
  have HWB := Lib.hid hwb
  have CM := wRoom_any wb (hw.below BB.out) (fun _ => ⟨by show 1 ≤ n; omega, by show n ≤ 65536; omega, hI.fit⟩)
  have hroom : Ws.room ⟨a, n, t, len, K, false⟩ = ((hlf n * 64 : Nat) : Int) - (len : Int) := rfl
  rw [hroom] at CM
  have CM := Lib.hid CM
  have ZR : Hid (∀ V, Below w.heap.size w V → V.heap[gp]? = some (.cells (plyC gd gw a n vk true) 31 (0, 0))) := fun V hV => (hV.block gp (Array.getElem?_eq_some_iff.1 hrow).1).trans hrow
  have ZX := Lib.hid (fun V (hV : Below wb.heap.size wb V) => op_at ((hV.block _ (Array.getElem?_eq_some_iff.1 HBX.out).1).trans HBX.out))
  have HB := Lib.hid hb
  have HD := Lib.hid hd
  have HW := Lib.hid hw
  have HDI := Lib.hid hdis
  have HGP := Lib.hid (And.intro hgp (And.intro hnd hnw))
  have HK := Lib.hid hk
  have HI := Lib.hid hI
  have HIN := Lib.hid hin
  have HN4 := Lib.hid hn4
  have HNS := Lib.hid hNs
  have HN2 := Lib.hid hN2
  have HZ := Lib.hid hZ
  have HA := Lib.hid hA
  have HX := Lib.hid hx
  obtain ⟨⟨p0, p1, p2, p3, p4, p5⟩, -⟩ := play_at (ZR.out wb BB.out)
  clear hb hd hw hdis hrow hgp hnd hnw hk hI hin hn4 hNs hN2 hZ hwb hroom hA hx
  unfold opV
  unfold opC at HWB
  have e0 : (x.kind == 0) = false := by rw [h3]; rfl
  have e1 : (x.kind == 1) = false := by rw [h3]; rfl
  have e2 : (x.kind == 2) = false := by rw [h3]; rfl
  have e3 : (x.kind == 3) = true := by rw [h3]; rfl
  clear h3
  go_enter Tryd.func10, Tryd.ntmps10
  go_upto_region 1 with fail
  rw [← HWB.out]
  go_upto_region 2 with (first
    | (go_at_call 16; refine CM.out.mono ?_; rintro e w2 ⟨rfl, hb2⟩; have D2 := Lib.hid hb2; have B2 := Lib.hid (BB.out.trans (hb2.mono BB.out.size)); clear hb2)
    | fail)
  obtain ⟨x0, x1, x2, x3, x4, x5⟩ := ZX.out w2 D2.out
  clear p0 p1 p2 p3 p4 p5
  go_upto_region 19 with fail
  obtain ⟨⟨y0, y1, y2, y3, y4, y5⟩, -⟩ := play_at (ZR.out w2 B2.out)
  have y0d : w2.drew.cell? ⟨gp, 0, none⟩ = some (.pointer (some ⟨gd, 0, none⟩)) := y0
  have x4d : w2.drew.cell? ⟨w.heap.size, 4, none⟩ = some (.int .i64 x.at_) := x4
  have B2d : Hid (Below w.heap.size w w2.drew) := B2.out.trans ((Below.refl w2.heap.size w2).drew.mono B2.out.size)
  have CAM := Lib.hid (carm_any x.at_ w2.drew (HD.out.below B2d.out))
  refine wp_region_still_tail 6 (by kernel_rfl) (by kernel_rfl) ?_
  simp only [List.take_succ_cons, List.take_zero, List.drop_succ_cons, List.drop_zero]
  repeat still_step
  refine wpStill_nil ?_
  change wpList _ _ _ _ _ w2.drew
  obtain ⟨wd, hwd⟩ : ∃ wd, wd = w2.drew := ⟨_, rfl⟩
  rw [← hwd] at B2d CAM
  rw [← hwd]
  clear hwd y0 y1 y2 y3 y4 y5 y0d x4d x0 x1 x2 x3 x4 x5
  go_wp2_with fail
  refine CAM.out.mono ?_
  rintro e w3 ⟨rfl, hd3, hf3⟩
  have F3 : Hid (Fr N w w3) := (Fr.of_below B2d.out : Fr N w wd).trans (hf3.wide fun k h => HNS.out k (.inl h)) (Grew.refl _ _)
  have D3 : Hid (CDk w3 Fd w0.heap.size gd ⟨Z, [], true, x.at_⟩) := hd3
  have hP3 : Ply w0 w3 gp a n Z x.at_ t len K N := ⟨gd, gw, Fd, Fw, vk, HB.out.trans (F3.out.below HB.out.size fun k hk => (HN2.out k hk).1), D3.out, (HW.out.below B2d.out).fr hf3 (fun k h1 h2 => HDI.out k h2 h1), HDI.out, (hf3.block gp (Array.getElem?_eq_some_iff.1 (ZR.out wd B2d.out)).1 HGP.out.2.1).trans (ZR.out wd B2d.out), HGP.out.1, HGP.out.2.1, HGP.out.2.2, HK.out.go F3.out (Grew.refl _ _), HI.out, HIN.out, HN4.out, HNS.out, fun k hk => ⟨(HN2.out k hk).1, Nat.lt_of_lt_of_le (HN2.out k hk).2 F3.out.size⟩⟩
  have HP3 := Lib.hid hP3
  clear hd3 hf3 hP3
  obtain ⟨Zz, hZz⟩ : ∃ Zz, Zz = Z := ⟨_, rfl⟩
  obtain ⟨lz, hlz⟩ : ∃ lz, lz = x.at_ := ⟨_, rfl⟩
  obtain ⟨tz, htz⟩ : ∃ tz, tz = t := ⟨_, rfl⟩
  obtain ⟨nz, hnz⟩ : ∃ nz, nz = len := ⟨_, rfl⟩
  obtain ⟨Kz, hKz⟩ : ∃ Kz, Kz = K := ⟨_, rfl⟩
  obtain ⟨Nz, hNz⟩ : ∃ Nz, Nz = N := ⟨_, rfl⟩
  have HPL : Hid (Ply w0 w3 gp a n Zz lz tz nz Kz Nz) := by rw [hZz, hlz, htz, hnz, hKz, hNz]; exact HP3.out
  have HF2 : OutZ a n Z Zz ∧ Fr N w w3 ∧ Grew w N Nz := by rw [hZz, hNz]; exact ⟨OutZ.refl HD.out.wide, F3.out, Grew.refl _ _⟩
  clear hZz hlz htz hnz hKz hNz
  have HPZ := HPL
  have HFZ := Lib.hid (HF2)
  obtain ⟨gdz, gwz, Fdz, Fwz, vkz, qb, qd, qw, qdis, qrow, qgp, qnd, qnw, qk, qI, qin, qn4, qNs, qN2⟩ := HPZ.out
  have YR : Hid (∀ V, Below w3.heap.size w3 V → V.heap[gp]? = some (.cells (plyC gdz gwz a n vkz true) 31 (0, 0))) := fun V hV => (hV.block gp (Array.getElem?_eq_some_iff.1 qrow).1).trans qrow
  have CAL : Hid (∀ V, Below w3.heap.size w3 V → Calls Tryd.prog 29 #[.pointer (some ⟨gdz, 0, none⟩)] V fun e w' => e = .returned (.bool true) ∧ V = w') := fun V hV => calive_any V (qd.below hV)
  obtain ⟨Az, cz, rfl, -, hkz⟩ := qk
  have CRC : Hid (∀ V, Below w3.heap.size w3 V → Calls Tryd.prog 22 #[.pointer (some ⟨gwz, 0, none⟩)] V (RcsR Kz V)) := fun V hV => wRecords_any V (qw.below hV)
  have hkl := few_of qI qn4 qin qd.few
  have CSM := Lib.hid (fun V (hV : Below w3.heap.size w3 V) (A : Option Addr) (c : Nat) (hr : RwC V V.heap.size A Kz.length Kz) => rsameR_any A Az Kz.length c Kz.length cz V.heap.size Kz Kz V hr ((hkz V (Fr.of_below hV)).moreB hV.size) (Nat.le_refl _) (Nat.le_trans hkl (by decide)))
  unfold RcsR at CRC
  clear qb qd qw qdis qrow qgp qnd qnw qI qin qn4 qNs qN2 hkz hkl
  have KS : Hid (∀ V, Below w3.heap.size w3 V → V.cell? ⟨gp, 0, none⟩ = some (.pointer (some ⟨gdz, 0, none⟩)) ∧ V.cell? ⟨gp, 1, none⟩ = some (.pointer (some ⟨gwz, 0, none⟩)) ∧ V.cell? ⟨gp, 4, none⟩ = some (.slice Az Kz.length cz) ∧ V.cell? ⟨gp, 5, none⟩ = some (.bool true) ∧ V.frozen? ⟨gp, 5, none⟩ = false) := fun V hV => by
    obtain ⟨⟨y0, y1, y2, y3, y4, y5⟩, yf⟩ := play_at (YR.out V hV)
    exact ⟨y0, y1, y4, y5, yf 5⟩
  go_upto_region 20 with fail
  go_region_held3 (fun V => V.cell? ⟨gp, 0, none⟩ = some (.pointer (some ⟨gdz, 0, none⟩)) ∧ V.cell? ⟨gp, 1, none⟩ = some (.pointer (some ⟨gwz, 0, none⟩)) ∧ V.cell? ⟨gp, 4, none⟩ = some (.slice Az Kz.length cz) ∧ V.cell? ⟨gp, 5, none⟩ = some (.bool true) ∧ V.frozen? ⟨gp, 5, none⟩ = false)
    (first | (with_reducible exact KS.out _ (below_same E9.out (YR.out _ E9.out))) | (with_reducible exact KS.out _ E9.out) | (with_reducible exact KS.out _ E8.out) | (with_reducible exact KS.out _ (Below.refl _ _).drew) | fail)
    (first
      | (go_at_call 29; refine (CAL.out _ (Below.refl _ _).drew).mono ?_; rintro e wx ⟨rfl, rfl⟩)
      | (go_at_call 22; refine (CRC.out _ (Below.refl _ _).drew).mono ?_; rintro e u8 ⟨hb8, v8, q8, rfl, hs8, hq8⟩; have hl8 : q8.length = Kz.length := (by rw [← hq8, List.length_map]); obtain ⟨A8, c8, rfl, -, hr8⟩ := hs8.rw; rw [hl8, hq8] at hr8; rw [hl8]; have R8 := Lib.hid hr8; have E8 := Lib.hid ((Below.refl w3.heap.size w3).drew.trans hb8); clear hb8 hs8 hq8 hr8 hl8)
      | (go_at_call 24; refine (CSM.out _ E8.out A8 c8 R8.out).mono ?_; rintro e u9 ⟨r9, rfl, hr9, hb9⟩; obtain rfl : r9 = true := (by simpa using hr9); have E9 := Lib.hid (E8.out.trans (hb9.mono E8.out.size)); clear hr9 hb9)
      | fail)
  refine bodyPost_end (v := .tuple #[]) (by simp [results, Tryd.results10]) rfl ?_
  have hEZ := below_same E9.out (YR.out _ E9.out)
  exact ⟨rfl, Zz, lz, tz, nz, Kz, Nz, HPZ.out.below hEZ, HFZ.out.1, HFZ.out.2.1.trans (Fr.of_below hEZ) HFZ.out.2.2, HFZ.out.2.2⟩
set_option maxRecDepth 100000 in
set_option maxHeartbeats 16000000 in
theorem do_crash (X : Snt14) (hA : ∀ W, Below w0.heap.size w0 W → Lds14 X W) (hP : Ply w0 w gp a n Z lf t len K N) (hx : x.ok w0) (h2 : x.kind = 2) :
    Calls Tryd.prog 10 #[.pointer (some ⟨gp, 0, none⟩), opV x] w (DoR w0 w gp a n Z N) := by
  have HP := Lib.hid hP
  obtain ⟨gd, gw, Fd, Fw, vk, hb, hd, hw, hdis, hrow, hgp, hnd, hnw, hk, hI, hin, hn4, hNs, hN2⟩ := hP
  have hZ : Z.length ≤ 65536 := hd.few
  obtain ⟨wb, hwb⟩ : ∃ wb, wb = w.alloc (.cells (opC x) 38) := ⟨_, rfl⟩
  have BB : Hid (Below w.heap.size w wb) := by show Below _ _ _; rw [hwb]; exact (Below.refl _ _).alloc (Nat.le_refl _) _
  have HBX : Hid (wb.heap[w.heap.size]? = some (.cells (opC x) 38 (0, 0))) := by show _ = _; rw [hwb]; exact heap_alloc_new w _
  have HWB := Lib.hid hwb
  have CM := wRoom_any wb (hw.below BB.out) (fun _ => ⟨by show 1 ≤ n; omega, by show n ≤ 65536; omega, hI.fit⟩)
  have hroom : Ws.room ⟨a, n, t, len, K, false⟩ = ((hlf n * 64 : Nat) : Int) - (len : Int) := rfl
  rw [hroom] at CM
  have CM := Lib.hid CM
  have ZR : Hid (∀ V, Below w.heap.size w V → V.heap[gp]? = some (.cells (plyC gd gw a n vk true) 31 (0, 0))) := fun V hV => (hV.block gp (Array.getElem?_eq_some_iff.1 hrow).1).trans hrow
  have ZX := Lib.hid (fun V (hV : Below wb.heap.size wb V) => op_at ((hV.block _ (Array.getElem?_eq_some_iff.1 HBX.out).1).trans HBX.out))
  have HB := Lib.hid hb
  have HD := Lib.hid hd
  have HW := Lib.hid hw
  have HDI := Lib.hid hdis
  have HGP := Lib.hid (And.intro hgp (And.intro hnd hnw))
  have HK := Lib.hid hk
  have HI := Lib.hid hI
  have HIN := Lib.hid hin
  have HN4 := Lib.hid hn4
  have HNS := Lib.hid hNs
  have HN2 := Lib.hid hN2
  have HZ := Lib.hid hZ
  have HA := Lib.hid hA
  have HX := Lib.hid hx
  obtain ⟨⟨p0, p1, p2, p3, p4, p5⟩, -⟩ := play_at (ZR.out wb BB.out)
  clear hb hd hw hdis hrow hgp hnd hnw hk hI hin hn4 hNs hN2 hZ hwb hroom hA hx
  unfold opV
  unfold opC at HWB
  have e0 : (x.kind == 0) = false := by rw [h2]; rfl
  have e1 : (x.kind == 1) = false := by rw [h2]; rfl
  have e2 : (x.kind == 2) = true := by rw [h2]; rfl
  clear h2
  go_enter Tryd.func10, Tryd.ntmps10
  go_upto_region 1 with fail
  rw [← HWB.out]
  go_upto_region 2 with (first
    | (go_at_call 16; refine CM.out.mono ?_; rintro e w2 ⟨rfl, hb2⟩; have D2 := Lib.hid hb2; have B2 := Lib.hid (BB.out.trans (hb2.mono BB.out.size)); clear hb2)
    | fail)
  obtain ⟨x0, x1, x2, x3, x4, x5⟩ := ZX.out w2 D2.out
  clear p0 p1 p2 p3 p4 p5
  go_upto_region 17 with fail
  obtain ⟨⟨y0, y1, y2, y3, y4, y5⟩, -⟩ := play_at (ZR.out w2 B2.out)
  have y4d : w2.drew.cell? ⟨gp, 4, none⟩ = some vk := y4
  have x5d : w2.drew.cell? ⟨w.heap.size, 5, none⟩ = some (.slice x.ka x.kn x.kc) := x5
  have B2d : Hid (Below w.heap.size w w2.drew) := B2.out.trans ((Below.refl w2.heap.size w2).drew.mono B2.out.size)
  have hT0 : tornW Z [] x.keep = Z := by unfold tornW; rfl
  have CG := again_any X w0 w2.drew (gp := gp) (gd := gd) (gw := gw) (a := a) (n := n) (A := x.ka) (m := x.kn) (c := x.kc) (ks := x.keep) (N := N) (D := ⟨Z, [], true, lf⟩) (vk := vk) (vo := vk) (K := K) (Ko := K) (t0 := t) (len0 := len) (t1 := t) (len1 := len) HA.out (HB.out.trans (B2d.out.mono HB.out.size)) (HD.out.below B2d.out) (Nat.zero_le _) (ZR.out _ B2d.out) HGP.out.2.1 (fun k h => HNS.out k (h.elim .inl fun h => .inr (.inr h))) (fun k hk => ⟨(HN2.out k hk).1, Nat.lt_of_lt_of_le (HN2.out k hk).2 B2d.out.size⟩) (HK.out.below B2d.out) (HK.out.below B2d.out) HX.out.2.2.2.2.1 (fun h => by
    obtain ⟨b, o, e, hj⟩ := HX.out.2.2.2.2.2 h
    refine ⟨b, o, e, ?_, hj⟩
    obtain ⟨y, hy⟩ : ∃ y, x.keep[0]? = some y := ⟨_, List.getElem?_eq_getElem (by rw [← HX.out.2.2.2.2.1]; exact h)⟩
    exact World.block_lt_of_cell? w0 ⟨b, o + 0, none⟩ (hj 0 y hy)) (.inl (by show InZ a n (tornW Z [] x.keep) t len K; rw [hT0]; exact HI.out)) HIN.out HN4.out
  have hT1 : tornW (⟨Z, [], true, lf⟩ : Cd).secs (⟨Z, [], true, lf⟩ : Cd).waits x.keep = Z := hT0
  rw [hT1] at CG
  have CG := Lib.hid CG
  refine wp_region_still_tail 7 (by kernel_rfl) (by kernel_rfl) ?_
  simp only [List.take_succ_cons, List.take_zero, List.drop_succ_cons, List.drop_zero]
  repeat still_step
  refine wpStill_nil ?_
  change wpList _ _ _ _ _ w2.drew
  obtain ⟨wd, hwd⟩ : ∃ wd, wd = w2.drew := ⟨_, rfl⟩
  rw [← hwd] at B2d CG
  rw [← hwd]
  clear hwd y0 y1 y2 y3 y4 y5 y4d x5d x0 x1 x2 x3 x4 x5 hT0 hT1
  go_wp2_with fail
  refine CG.out.mono ?_
  rintro e w3 ⟨rfl, tz, nz, Kz, Nz, hP3, hF3, hG3⟩
  obtain ⟨Zz, hZz⟩ : ∃ Zz, Zz = Z := ⟨_, rfl⟩
  obtain ⟨lz, hlz⟩ : ∃ lz : Int, lz = -1 := ⟨_, rfl⟩
  have HPL : Hid (Ply w0 w3 gp a n Zz lz tz nz Kz Nz) := by rw [hZz, hlz]; exact hP3
  have HF2 : OutZ a n Z Zz ∧ Fr N w w3 ∧ Grew w N Nz := by rw [hZz]; exact ⟨OutZ.refl HD.out.wide, (Fr.of_below B2d.out : Fr N w wd).trans hF3 (Grew.refl _ _), (Grew.refl w N).trans hG3 B2d.out.size⟩
  clear hZz hlz hP3 hF3 hG3
  have HPZ := HPL
  have HFZ := Lib.hid (HF2)
  obtain ⟨gdz, gwz, Fdz, Fwz, vkz, qb, qd, qw, qdis, qrow, qgp, qnd, qnw, qk, qI, qin, qn4, qNs, qN2⟩ := HPZ.out
  have YR : Hid (∀ V, Below w3.heap.size w3 V → V.heap[gp]? = some (.cells (plyC gdz gwz a n vkz true) 31 (0, 0))) := fun V hV => (hV.block gp (Array.getElem?_eq_some_iff.1 qrow).1).trans qrow
  have CAL : Hid (∀ V, Below w3.heap.size w3 V → Calls Tryd.prog 29 #[.pointer (some ⟨gdz, 0, none⟩)] V fun e w' => e = .returned (.bool true) ∧ V = w') := fun V hV => calive_any V (qd.below hV)
  obtain ⟨Az, cz, rfl, -, hkz⟩ := qk
  have CRC : Hid (∀ V, Below w3.heap.size w3 V → Calls Tryd.prog 22 #[.pointer (some ⟨gwz, 0, none⟩)] V (RcsR Kz V)) := fun V hV => wRecords_any V (qw.below hV)
  have hkl := few_of qI qn4 qin qd.few
  have CSM := Lib.hid (fun V (hV : Below w3.heap.size w3 V) (A : Option Addr) (c : Nat) (hr : RwC V V.heap.size A Kz.length Kz) => rsameR_any A Az Kz.length c Kz.length cz V.heap.size Kz Kz V hr ((hkz V (Fr.of_below hV)).moreB hV.size) (Nat.le_refl _) (Nat.le_trans hkl (by decide)))
  unfold RcsR at CRC
  clear qb qd qw qdis qrow qgp qnd qnw qI qin qn4 qNs qN2 hkz hkl
  have KS : Hid (∀ V, Below w3.heap.size w3 V → V.cell? ⟨gp, 0, none⟩ = some (.pointer (some ⟨gdz, 0, none⟩)) ∧ V.cell? ⟨gp, 1, none⟩ = some (.pointer (some ⟨gwz, 0, none⟩)) ∧ V.cell? ⟨gp, 4, none⟩ = some (.slice Az Kz.length cz) ∧ V.cell? ⟨gp, 5, none⟩ = some (.bool true) ∧ V.frozen? ⟨gp, 5, none⟩ = false) := fun V hV => by
    obtain ⟨⟨y0, y1, y2, y3, y4, y5⟩, yf⟩ := play_at (YR.out V hV)
    exact ⟨y0, y1, y4, y5, yf 5⟩
  go_upto_region 20 with fail
  go_region_held3 (fun V => V.cell? ⟨gp, 0, none⟩ = some (.pointer (some ⟨gdz, 0, none⟩)) ∧ V.cell? ⟨gp, 1, none⟩ = some (.pointer (some ⟨gwz, 0, none⟩)) ∧ V.cell? ⟨gp, 4, none⟩ = some (.slice Az Kz.length cz) ∧ V.cell? ⟨gp, 5, none⟩ = some (.bool true) ∧ V.frozen? ⟨gp, 5, none⟩ = false)
    (first | (with_reducible exact KS.out _ (below_same E9.out (YR.out _ E9.out))) | (with_reducible exact KS.out _ E9.out) | (with_reducible exact KS.out _ E8.out) | (with_reducible exact KS.out _ (Below.refl _ _).drew) | fail)
    (first
      | (go_at_call 29; refine (CAL.out _ (Below.refl _ _).drew).mono ?_; rintro e wx ⟨rfl, rfl⟩)
      | (go_at_call 22; refine (CRC.out _ (Below.refl _ _).drew).mono ?_; rintro e u8 ⟨hb8, v8, q8, rfl, hs8, hq8⟩; have hl8 : q8.length = Kz.length := (by rw [← hq8, List.length_map]); obtain ⟨A8, c8, rfl, -, hr8⟩ := hs8.rw; rw [hl8, hq8] at hr8; rw [hl8]; have R8 := Lib.hid hr8; have E8 := Lib.hid ((Below.refl w3.heap.size w3).drew.trans hb8); clear hb8 hs8 hq8 hr8 hl8)
      | (go_at_call 24; refine (CSM.out _ E8.out A8 c8 R8.out).mono ?_; rintro e u9 ⟨r9, rfl, hr9, hb9⟩; obtain rfl : r9 = true := (by simpa using hr9); have E9 := Lib.hid (E8.out.trans (hb9.mono E8.out.size)); clear hr9 hb9)
      | fail)
  refine bodyPost_end (v := .tuple #[]) (by simp [results, Tryd.results10]) rfl ?_
  have hEZ := below_same E9.out (YR.out _ E9.out)
  exact ⟨rfl, Zz, lz, tz, nz, Kz, Nz, HPZ.out.below hEZ, HFZ.out.1, HFZ.out.2.1.trans (Fr.of_below hEZ) HFZ.out.2.2, HFZ.out.2.2⟩
end
end Go.Proofs.YtahgaogmcffglaaDoor
/- Rows of records of one's own, and one that came in put behind them. -/
namespace Go.Proofs.YtahgaogmcffglaaDoor
open Go.RowKit

/-- append of one record whose bytes lie elsewhere, as a step. -/
theorem step_appRH {w : World} {ops : Array Oper} {o : Oper} {a : Act} {K : Act → World → Prop} {Q : Exit → Act → World → Prop} {E : Prop} (hgd : o.guard = none) (s x : Operand)
    (ho : o.op = .call { callee := .builtin .append, args := #[s, x], argTypes := #[29, 29] })
    (base : Nat) (v : Value) (qs : List QR) (hs : a.eval s = v) (hown : ScS w base v qs) (b c : Nat) (q : QR) (hx : a.eval x = .slice (some ⟨b, 0, none⟩) 1 c) (hu0 : w.cell? ⟨b, 0, none⟩ = some (.int .i64 q.1.typ)) (hu1 : w.cell? ⟨b, 1, none⟩ = some (.slice q.2.1 q.2.2.1 q.2.2.2))
    (hlen : qs.length + 1 ≤ 4398046511104) (hbase : base ≤ w.heap.size)
    (h : ∀ v' w', w'.ownsRow base 35 2 v' (qs ++ [q]).length (flatQ (qs ++ [q])) → (∀ y ∈ qs, Ob w' base 5 (.slice y.2.1 y.2.2.1 y.2.2.2) y.1.dat ∧ y.1.dat.length ≤ 8192) → Below base w w' → K (a.put o.dst v') w') : if Region.wanted o (yielded ops a.tmps) = true then Oper.wp Tryd.prog o a w K Q else E := by
  have hw : Region.wanted o (yielded ops a.tmps) = true := by simp [Region.wanted, hgd]
  rw [if_pos hw]
  obtain ⟨i, hi, hi0, hi1, hi2⟩ := info_parts info_rec14
  obtain ⟨v', w', hrun, h2, h3, -, -⟩ := run_append_own_at (P := Tryd.prog) w base 29 o.type 35 i (.agg #[.int .i64 0, .slice none 0 0]) 2 32 Tryd.underlying29 hi hi0 hi1 hi2 rfl (by decide) v qs.length (flatQ qs) hown.1 ⟨b, 0, none⟩ 1 c [.int .i64 q.1.typ, .slice q.2.1 q.2.2.1 q.2.2.2] rfl (fun j u' hj => by
    rw [add_mk14]
    match j, hj with
    | 0, hj =>
      simp at hj
      subst hj
      exact hu0
    | 1, hj =>
      simp at hj
      subst hj
      exact hu1
    | j + 2, hj => simp at hj) (fun u' hu' => by
    simp at hu'
    rcases hu' with rfl | rfl <;> rfl) (by unfold maxLen; omega) (by omega) hbase
  unfold Oper.wp execOp
  simp only [ho, resolve, invoke, builtin, Sem.run_bind, Sem.run_pure, Result.andThen_ok, List.map_toArray, List.map_cons, List.map_nil, hs, hx, hrun]
  refine h v' w' ?_ (fun y hy => ⟨?_, (hown.2 y hy).2⟩) ⟨h3.os, h3.tape, h3.output, h3.size, fun k hk => h3.block k (by omega) (fun e => by have := (World.ownsRow.lt hown.1 k e.symm).1; omega)⟩
  · rw [flatQ_snoc, List.length_append, List.length_singleton]
    exact h2
  · refine (hown.2 y hy).1.kept h3 ?_
    rcases hown.1.2 with ⟨hv, -⟩ | ⟨g, cap, cur, hv, -, hg, -⟩
    · rw [hv]
      show _ ∨ _ ≠ (none : Option Nat)
      cases (Value.slice y.2.1 y.2.2.1 y.2.2.2).ownBlock with
      | none => exact .inl rfl
      | some g' => exact .inr (by simp)
    · exact .inr (by rw [hv]; exact (hown.2 y hy).1.not_at14 hg (by decide))
/-- Such a row reads the same, whatever is done to blocks between. -/
theorem RwA.rwc {w : World} {A : Option Addr} {n : Nat} {l : List Rcd} (h : RwA w A n l) (hd : ∀ r ∈ l, r.dat.length ≤ 8192) : RwC w w.heap.size A n l := ⟨h.1, fun h0 => by
  obtain ⟨b, o, e, hb, hx⟩ := h.2 h0
  refine ⟨b, o, e, hb, fun i r hi => ?_⟩
  obtain ⟨Ad, nd, cd, k1, k2, k3, k4⟩ := hx i r hi
  exact ⟨Ad, nd, cd, k1, k2, k3, by rw [← k4.1]; exact Nat.le_trans (hd r (List.mem_of_getElem? hi)) (by decide), k4⟩⟩
theorem KpR.then_ {w : World} {N : Nat → Prop} {lo base : Nat} {v : Value} {qs : List QR} {q : QR} (hrow : w.ownsRow base 35 2 v (qs ++ [q]).length (flatQ (qs ++ [q]))) (hqs : ∀ y ∈ qs, Ob w base 5 (.slice y.2.1 y.2.2.1 y.2.2.2) y.1.dat ∧ y.1.dat.length ≤ 8192)
    (hq : q.2.2.1 ≤ q.2.2.2 ∧ Rd w lo q.2.1 q.2.2.1 q.1.dat) (hq2 : q.2.2.1 ≤ 140737488355328) (hlo : lo ≤ w.heap.size) (hN : ∀ k, N k → lo ≤ k ∧ k < base) : KpR w N v ((qs ++ [q]).map (·.1)) := by
  obtain ⟨A, c, rfl, hc⟩ := len_of_own' hrow
  have hl : ((qs ++ [q]).map (·.1)).length = (qs ++ [q]).length := List.length_map _
  refine ⟨A, c, by rw [hl], by rw [hl]; exact hc, fun W hW => ?_⟩
  have hown : ∀ b, (Value.slice A (qs ++ [q]).length c).ownBlock = some b → base ≤ b ∧ b < w.heap.size := fun b hb => World.ownsRow.lt hrow b hb
  have hrowW := owns_same hrow (fun b hb => hW.block b (hown b hb).2 (fun hf => by have := (hN b hf).2; have := (hown b hb).1; omega))
  rw [hl]
  refine ⟨hl, fun h0 => ?_⟩
  rcases hrowW.2 with ⟨hv, -⟩ | ⟨g, cap, cur, hv, -⟩
  · injection hv with _ h1 _
    omega
  injection hv with hA _ _
  subst hA
  refine ⟨g, 0, rfl, (hown g rfl).2, fun i r hi => ?_⟩
  rw [List.getElem?_map] at hi
  obtain ⟨y, hy, rfl⟩ := Option.map_eq_some_iff.1 hi
  obtain ⟨f1, f2⟩ := flatQ_at _ i y hy
  have g1 := World.ownsRow.cells hrowW (g := g) rfl _ _ f1
  have g2 := World.ownsRow.cells hrowW (g := g) rfl _ _ f2
  rw [add_mk14] at g1 g2
  have hmem := List.mem_of_getElem? hy
  rcases List.mem_append.1 hmem with hm | hm
  · have ho := (hqs y hm).1
    have hoW : Ob W base 5 (.slice y.2.1 y.2.2.1 y.2.2.2) y.1.dat := ho.same fun b hb => hW.block b (ho.own_ge hb).2 (fun hf => by have := (hN b hf).2; have := (ho.own_ge hb).1; omega)
    refine ⟨y.2.1, y.2.2.1, y.2.2.2, g1, by rw [← Nat.add_assoc] at g2; exact g2, hoW.rd_.2.2.1, ?_, hoW.rd_.1, fun h1 => ?_⟩
    · rw [← hoW.rd_.1]
      exact Nat.le_trans (hqs y hm).2 (by decide)
    · obtain ⟨b2, o2, e2, -, hc2⟩ := hoW.rd_.2.1.2 h1
      exact ⟨b2, o2, e2, (ho.own_ge (k := b2) (by rw [e2]; rfl)).2, hc2⟩
  · obtain rfl := List.mem_singleton.1 hm
    refine ⟨y.2.1, y.2.2.1, y.2.2.2, g1, by rw [← Nat.add_assoc] at g2; exact g2, hq.1, hq2, ?_⟩
    refine (hq.2.keep fun p hp => ?_).more hlo
    exact World.cell?_of_block (hW.block p.block (Nat.lt_of_lt_of_le hp hlo) (fun hf => by have := (hN _ hf).1; omega))
end Go.Proofs.YtahgaogmcffglaaDoor
