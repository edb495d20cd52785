/- What item of layer 5 returns. (Made by gen/BlkD.py.) -/
import Derived.Test.YtbdjkihgcmebgaaGreatDoorRArrS
import Derived.Test.YtbdjkihgcmebgaaGreatDoorREidC3
import Derived.Deep.RegionHeld3
import Derived.Deep.AppendLies
import Derived.Laws.MakeOwn
namespace Go.Proofs.YtbdjkihgcmebgaaGreatDoor
open Go.RowKit

set_option maxRecDepth 100000 in
set_option maxHeartbeats 1000000 in
/-- Uint, its value whole. -/
theorem cuintV (n : Int) (w : World) :
    Calls Tryz.prog 55 #[.int .u64 n] w fun e w' => e = .returned (.agg #[.int .i64 0, .int .u64 n, .slice none 0 0, .slice none 0 0]) ∧ Below w.heap.size w w' := by
  go_enter Tryz.func55, Tryz.ntmps55
  go_wp2_with fail
  exact bodyPost_ret (v := .agg #[.int .i64 0, .int .u64 n, .slice none 0 0, .slice none 0 0]) (by simp [results, Tryz.results55, go_sem]) rfl ⟨rfl, (Below.refl _ _).alloc (Nat.le_refl _) _⟩

/-- The five cells of a block's box. -/
theorem box5 {w w' : World} {c0 c1 c2 c3 c4 : Value} {t : TypeId} {g : Nat} (hg : g = w.heap.size) (h : Below (g + 1) (w.alloc (.cells #[c0, c1, c2, c3, c4] t)) w') :
    w'.cell? ⟨g, 0, none⟩ = some c0 ∧ w'.cell? ⟨g, 1, none⟩ = some c1 ∧ w'.cell? ⟨g, 2, none⟩ = some c2 ∧ w'.cell? ⟨g, 3, none⟩ = some c3 ∧ w'.cell? ⟨g, 4, none⟩ = some c4 := by
  subst hg
  refine ⟨?_, ?_, ?_, ?_, ?_⟩ <;> (rw [h.cell (Nat.lt_succ_self _), World.cell?_alloc_at _ _ _ _ rfl]; rfl)

theorem Rd.mask_any {w : World} {lo B n : Nat} {A : Option Addr} {l : List UInt8} (h : Rd w B A n l) (hA : 0 < n → ∀ b o, A = some ⟨b, o, none⟩ → lo ≤ b) : Rd (mask (lows lo) w) B A n l :=
  ⟨h.1, fun hn => by
    obtain ⟨b, o, e, hB, hc⟩ := h.2 hn
    exact ⟨b, o, e, hB, fun i hi => (mask_cell (lows_f.2 (hA hn b o e))).trans (hc i hi)⟩⟩

set_option maxRecDepth 100000 in
set_option maxHeartbeats 1000000 in
theorem cbytesL_any (lo : Nat) (A : Option Addr) (n c B : Nat) (l : List UInt8) (w : World) (hlo : lo ≤ w.heap.size) (hB : B ≤ w.heap.size) (h : Rd w B A n l) (hn : n ≤ 140737488355328) :
    Calls Tryz.prog 56 #[.slice A n c] w (GivesL lo (.mk 2 0 l []) w) := by
  have C1 := Lib.hid (bclone_any A n c B l (w.alloc (.cells #[.int .i64 0, .int .u64 0, .slice none 0 0, .slice none 0 0] 42)) (Nat.le_trans hB (le_alloc _ _)) (h.alloc hB _) hn)
  have HLN := Lib.hid h.1
  have HN := Lib.hid hn
  have HLO := Lib.hid hlo
  clear h hn hB hlo
  go_enter Tryz.func56, Tryz.ntmps56
  go_wp2_with fail
  refine C1.out.mono ?_
  rintro e w1 ⟨v, rfl, ho, hb⟩
  have hb' := to_box hb
  obtain ⟨⟨z0, z1, z2, z3⟩, f0, f1, f2, f3⟩ := zero_cells hb'
  obtain ⟨A2, c2, rfl, hc2, hm2, hr2⟩ := ho.rdn HLN.out
  have HR2 := Lib.hid hr2
  have HO2 := Lib.hid ho
  have B1 := Lib.hid hb'
  clear ho hb hb' hr2
  go_wp2_with fail
  have hblk : ∀ b o, 0 < n → A2 = some ⟨b, o, none⟩ → w.heap.size < b := by
    intro b o hn h
    obtain ⟨g, cap, hv, hg, _, _⟩ := HO2.out.form (by rw [HLN.out]; exact hn)
    subst h
    cases hv
    simp at hg
    omega
  have HLO' := HLO.out
  refine bodyPost_ret (v := .agg #[.int .i64 2, .int .u64 0, .slice A2 n c2, .slice none 0 0]) (by simp [results, Tryz.results56, go_sem, z0, z1, z2, z3]) rfl ⟨_, rfl, RdI.mk_data (by decide) hc2 HN.out (Rd.mask_any ?_ (fun hn b o h => by have := hblk b o hn h; omega)), ?_⟩
  · refine Rd.set4 (HR2.out.more (by simp [World.setCell])) (fun hn b o h => ?_)
    have := hblk b o hn h
    omega
  · exact below_set4 (((Below.refl _ _).alloc (Nat.le_refl _) _).trans (B1.out.mono (Nat.le_succ _))) (Nat.le_refl _)

/-- Items in cells, in a row of their own. -/
theorem ItC.row {lo : Nat} {W : World} {cs : List Value} {xs : List Itm} {t : TypeId} (hlo : lo ≤ W.heap.size) (h : ItC (mask (lows lo) W) W.heap.size cs xs) :
    RdIs (mask (lows lo) (W.alloc (.cells cs.toArray t))) (W.heap.size + 1) W.heap.size 0 xs :=
  ItC.lie (h.mask_go (S' := lows lo) (B' := W.heap.size + 1) (Nat.le_succ _) (fun _ hk _ => Below.heap_alloc _ _ _ hk) (fun _ _ h => h)) (fun j u hj => by
    rw [Nat.zero_add, mask_cell (lows_f.2 hlo), World.cell?_alloc_at _ _ _ _ rfl]
    simpa using hj)
/-- Array of items in such a row. -/
theorem carray_row {lo n cap b B : Nat} {W : World} {xs : List Itm} (hlo : lo ≤ W.heap.size) (hB : B ≤ W.heap.size) (hb : b < B) (h : RdIs (mask (lows lo) W) B b 0 xs) (hn : xs.length = n) (h0 : 0 < n) (hp : pars xs ≤ 1000000) (hc : n ≤ cap) :
    Calls Tryz.prog 57 #[.slice (some ⟨b, 0, none⟩) n cap] W (GivesL lo (.mk 4 0 [] xs) W) :=
  carrayS_any (lows lo) b 0 n cap B xs W (fun k hk => by have h1 := decide_eq_true_iff.1 hk; omega) hB hb h hn h0 hp hc

theorem make_z2 (W : World) : (Instr.makeSlice 22 (.int .i64 2) (.int .i64 2)).run Tryz.prog W = .ok (.slice (some ⟨W.heap.size, 0, none⟩) 2 2) (W.alloc (.cells #[.int .u8 0, .int .u8 0] 5)) := by
  obtain ⟨i, h1, h2, h3, h4⟩ := info_parts info_u8
  rw [run_makeSlice W 22 5 i _ Tryz.underlying22 h1 h2 .i64 .i64 2 2 (by decide) (by decide) (by rw [h3]; decide) (by rw [h4]; decide) (by decide), h3, show madeCells (Value.int IntKind.u8 0).cells (Int.toNat 2 * 1) = #[.int .u8 0, .int .u8 0] by kernel_rfl]
  rfl
theorem make_z4 (W : World) : (Instr.makeSlice 22 (.int .i64 4) (.int .i64 4)).run Tryz.prog W = .ok (.slice (some ⟨W.heap.size, 0, none⟩) 4 4) (W.alloc (.cells #[.int .u8 0, .int .u8 0, .int .u8 0, .int .u8 0] 5)) := by
  obtain ⟨i, h1, h2, h3, h4⟩ := info_parts info_u8
  rw [run_makeSlice W 22 5 i _ Tryz.underlying22 h1 h2 .i64 .i64 4 4 (by decide) (by decide) (by rw [h3]; decide) (by rw [h4]; decide) (by decide), h3, show madeCells (Value.int IntKind.u8 0).cells (Int.toNat 4 * 1) = #[.int .u8 0, .int .u8 0, .int .u8 0, .int .u8 0] by kernel_rfl]
  rfl

set_option maxRecDepth 100000 in
set_option maxHeartbeats 4000000 in
theorem bitem_0 (t n f : Nat) (A : Option Addr) (nd cd B : Nat) (d : List UInt8) (w : World) (ht : t < 18446744073709551616) (hn : n < 18446744073709551616) (hf : f < 18446744073709551616) (hB : B ≤ w.heap.size) (h : Rd w B A nd d) (hnd : nd ≤ 140737488355328) :
    Calls Tryz.prog 37 #[blkV t n f 0 A nd cd] w (GivesL w.heap.size (itmB ⟨t, n, f, 0, d⟩ (List.replicate 0 0)) w) := by
  have HX : Hid (itmB ⟨t, n, f, 0, d⟩ (List.replicate 0 0) = .mk 4 0 [] [.mk 0 t [] [], .mk 0 n [] [], .mk 0 f [] [], .mk 0 0 [] [], .mk 2 0 d []]) := rfl
  rw [HX.out]
  have HT := Lib.hid (And.intro ht (And.intro hn hf))
  have hB0 := (((Below.refl w.heap.size w).alloc (Nat.le_refl _) (.cells #[.int .u64 (t : Int), .int .u64 (n : Int), .int .u64 (f : Int), .int .i64 0, .slice A nd cd] 25)).alloc (le_alloc _ _) (.cells #[.int .i64 0, .int .u64 0, .slice none 0 0, .slice none 0 0] 42))
  have hR0 := h.below (hB0.mono hB)
  have hb1 := ((Below.refl (w.heap.size + 1) (w.alloc (.cells #[.int .u64 (t : Int), .int .u64 (n : Int), .int .u64 (f : Int), .int .i64 0, .slice A nd cd] 25))).alloc (by simp) (.cells #[.int .i64 0, .int .u64 0, .slice none 0 0, .slice none 0 0] 42))
  obtain ⟨g10, g11, g12, g13, g14⟩ := box5 rfl hb1
  have hs0 : ((w.alloc (.cells #[.int .u64 (t : Int), .int .u64 (n : Int), .int .u64 (f : Int), .int .i64 0, .slice A nd cd] 25)).alloc (.cells #[.int .i64 0, .int .u64 0, .slice none 0 0, .slice none 0 0] 42)).heap.size = w.heap.size + 2 := by simp
  have hz := fun (W' : World) (hb : Below (w.heap.size + 2) ((w.alloc (.cells #[.int .u64 (t : Int), .int .u64 (n : Int), .int .u64 (f : Int), .int .i64 0, .slice A nd cd] 25)).alloc (.cells #[.int .i64 0, .int .u64 0, .slice none 0 0, .slice none 0 0] 42)) W') => zero4 (w := w.alloc (.cells #[.int .u64 (t : Int), .int .u64 (n : Int), .int .u64 (f : Int), .int .i64 0, .slice A nd cd] 25)) (g := w.heap.size + 1) (by simp) hb
  have HZ := Lib.hid hz
  have HB0 := Lib.hid hB0
  have HBW := Lib.hid hB
  have HRR := Lib.hid hR0
  have HNd := Lib.hid hnd
  have CU := Lib.hid cuintV
  clear h hB hnd ht hn hf hB0 hR0 hb1 hz
  unfold blkV
  go_enter Tryz.func37, Tryz.ntmps37
  go_wp2_with fail
  generalize ((w.alloc (.cells #[.int .u64 (t : Int), .int .u64 (n : Int), .int .u64 (f : Int), .int .i64 0, .slice A nd cd] 25)).alloc (.cells #[.int .i64 0, .int .u64 0, .slice none 0 0, .slice none 0 0] 42)) = W0 at *
  have hlt0 : w.heap.size < W0.heap.size := by omega
  have HS0 := Lib.hid hs0
  have CB : Hid (∀ (W : World), Below W0.heap.size W0 W → Calls Tryz.prog 56 #[.slice A nd cd] W (GivesL (w.heap.size + 2) (.mk 2 0 d []) W)) := fun W hb => cbytesL_any (w.heap.size + 2) A nd cd B d W (by have := hb.size; have := HS0.out; omega) (by have := hb.size; have := HS0.out; have := HBW.out; omega) (HRR.out.below (hb.mono (by have := HS0.out; have := HBW.out; omega))) HNd.out
  clear hs0
  go_region_held3 (fun W => W.cell? ⟨w.heap.size, 0, none⟩ = some (.int .u64 (t : Int)) ∧ W.cell? ⟨w.heap.size, 1, none⟩ = some (.int .u64 (n : Int)) ∧ W.cell? ⟨w.heap.size, 2, none⟩ = some (.int .u64 (f : Int)) ∧ W.cell? ⟨w.heap.size, 3, none⟩ = some (.int .i64 0) ∧ W.cell? ⟨w.heap.size, 4, none⟩ = some (.slice A nd cd))
    (first | (with_reducible exact ⟨x50, x51, x52, x53, x54⟩) | (with_reducible exact ⟨x40, x41, x42, x43, x44⟩) | (with_reducible exact ⟨x30, x31, x32, x33, x34⟩) | (with_reducible exact ⟨x20, x21, x22, x23, x24⟩) | (with_reducible exact ⟨x10, x11, x12, x13, x14⟩) | (exact ⟨g10, g11, g12, g13, g14⟩) | (exact ⟨(World.cell?_alloc_lt w5 _ ⟨w.heap.size, 0, none⟩ H5.out).trans x50, (World.cell?_alloc_lt w5 _ ⟨w.heap.size, 1, none⟩ H5.out).trans x51, (World.cell?_alloc_lt w5 _ ⟨w.heap.size, 2, none⟩ H5.out).trans x52, (World.cell?_alloc_lt w5 _ ⟨w.heap.size, 3, none⟩ H5.out).trans x53, (World.cell?_alloc_lt w5 _ ⟨w.heap.size, 4, none⟩ H5.out).trans x54⟩) | fail)
    (first
      | (go_at_call 56; refine (CB.out _ B4.out).mono ?_; rintro e w5 ⟨v5, rfl, hv5, hb5⟩; have hb5' := B4.out.trans (hb5.mono B4.out.size); have x50 := (hb5'.cell (p := ⟨w.heap.size, 0, none⟩) hlt0).trans g10; have x51 := (hb5'.cell (p := ⟨w.heap.size, 1, none⟩) hlt0).trans g11; have x52 := (hb5'.cell (p := ⟨w.heap.size, 2, none⟩) hlt0).trans g12; have x53 := (hb5'.cell (p := ⟨w.heap.size, 3, none⟩) hlt0).trans g13; have x54 := (hb5'.cell (p := ⟨w.heap.size, 4, none⟩) hlt0).trans g14; obtain ⟨k5, n5, A5, nd5, cd5, AL5, nl5, cl5, rfl⟩ := hv5.form; have V5 := Lib.hid hv5; have B5 := Lib.hid hb5'; have H5 : Hid (w.heap.size < w5.heap.size) := Nat.lt_of_lt_of_le hlt0 hb5'.size; clear hv5 hb5 hb5')
      | (go_at_call 55; have _g := B3; clear _g; refine (CU.out _ _).mono ?_; rintro e w4 ⟨rfl, hb4⟩; have hb4' := B3.out.trans (hb4.mono B3.out.size); have x40 := (hb4'.cell (p := ⟨w.heap.size, 0, none⟩) hlt0).trans g10; have x41 := (hb4'.cell (p := ⟨w.heap.size, 1, none⟩) hlt0).trans g11; have x42 := (hb4'.cell (p := ⟨w.heap.size, 2, none⟩) hlt0).trans g12; have x43 := (hb4'.cell (p := ⟨w.heap.size, 3, none⟩) hlt0).trans g13; have x44 := (hb4'.cell (p := ⟨w.heap.size, 4, none⟩) hlt0).trans g14; have B4 := Lib.hid hb4'; clear hb4 hb4')
      | (go_at_call 55; have _g := B2; clear _g; refine (CU.out _ _).mono ?_; rintro e w3 ⟨rfl, hb3⟩; have hb3' := B2.out.trans (hb3.mono B2.out.size); have x30 := (hb3'.cell (p := ⟨w.heap.size, 0, none⟩) hlt0).trans g10; have x31 := (hb3'.cell (p := ⟨w.heap.size, 1, none⟩) hlt0).trans g11; have x32 := (hb3'.cell (p := ⟨w.heap.size, 2, none⟩) hlt0).trans g12; have x33 := (hb3'.cell (p := ⟨w.heap.size, 3, none⟩) hlt0).trans g13; have x34 := (hb3'.cell (p := ⟨w.heap.size, 4, none⟩) hlt0).trans g14; have B3 := Lib.hid hb3'; clear hb3 hb3')
      | (go_at_call 55; have _g := B1; clear _g; refine (CU.out _ _).mono ?_; rintro e w2 ⟨rfl, hb2⟩; have hb2' := B1.out.trans (hb2.mono B1.out.size); have x20 := (hb2'.cell (p := ⟨w.heap.size, 0, none⟩) hlt0).trans g10; have x21 := (hb2'.cell (p := ⟨w.heap.size, 1, none⟩) hlt0).trans g11; have x22 := (hb2'.cell (p := ⟨w.heap.size, 2, none⟩) hlt0).trans g12; have x23 := (hb2'.cell (p := ⟨w.heap.size, 3, none⟩) hlt0).trans g13; have x24 := (hb2'.cell (p := ⟨w.heap.size, 4, none⟩) hlt0).trans g14; have B2 := Lib.hid hb2'; clear hb2 hb2')
      | (go_at_call 55; refine (CU.out _ _).mono ?_; rintro e w1 ⟨rfl, hb1⟩; have hb1' : Below W0.heap.size W0 w1 := Below.drew_.trans hb1; have x10 := (hb1'.cell (p := ⟨w.heap.size, 0, none⟩) hlt0).trans g10; have x11 := (hb1'.cell (p := ⟨w.heap.size, 1, none⟩) hlt0).trans g11; have x12 := (hb1'.cell (p := ⟨w.heap.size, 2, none⟩) hlt0).trans g12; have x13 := (hb1'.cell (p := ⟨w.heap.size, 3, none⟩) hlt0).trans g13; have x14 := (hb1'.cell (p := ⟨w.heap.size, 4, none⟩) hlt0).trans g14; have B1 := Lib.hid hb1'; clear hb1 hb1')
      | fail)
  have hlo5 : w.heap.size + 2 ≤ w5.heap.size := by have := B5.out.size; have := HS0.out; omega
  have hit : ItC (mask (lows (w.heap.size + 2)) w5) w5.heap.size [.int .i64 0, .int .u64 (t : Int), .slice none 0 0, .slice none 0 0, .int .i64 0, .int .u64 (n : Int), .slice none 0 0, .slice none 0 0, .int .i64 0, .int .u64 (f : Int), .slice none 0 0, .slice none 0 0, .int .i64 0, .int .u64 0, .slice none 0 0, .slice none 0 0, .int .i64 k5, .int .u64 (n5 : Int), .slice A5 nd5 cd5, .slice AL5 nl5 cl5] [.mk 0 t [] [], .mk 0 n [] [], .mk 0 f [] [], .mk 0 0 [] [], .mk 2 0 d []] := ⟨RdI.mk_uint HT.out.1, RdI.mk_uint HT.out.2.1, RdI.mk_uint HT.out.2.2, RdI.mk_uint (n := 0) (by decide), V5.out, trivial⟩
  have y3 := (World.cell?_alloc_lt w5 (.cells #[.int .i64 0, .int .u64 (t : Int), .slice none 0 0, .slice none 0 0, .int .i64 0, .int .u64 (n : Int), .slice none 0 0, .slice none 0 0, .int .i64 0, .int .u64 (f : Int), .slice none 0 0, .slice none 0 0, .int .i64 0, .int .u64 0, .slice none 0 0, .slice none 0 0, .int .i64 k5, .int .u64 (n5 : Int), .slice A5 nd5 cd5, .slice AL5 nl5 cl5] 42) ⟨w.heap.size, 3, none⟩ H5.out).trans x53
  have B6 := Lib.hid (B5.out.trans ((Below.refl w5.heap.size w5).alloc (Nat.le_refl _) (.cells #[.int .i64 0, .int .u64 (t : Int), .slice none 0 0, .slice none 0 0, .int .i64 0, .int .u64 (n : Int), .slice none 0 0, .slice none 0 0, .int .i64 0, .int .u64 (f : Int), .slice none 0 0, .slice none 0 0, .int .i64 0, .int .u64 0, .slice none 0 0, .slice none 0 0, .int .i64 k5, .int .u64 (n5 : Int), .slice A5 nd5 cd5, .slice AL5 nl5 cl5] 42) |>.mono B5.out.size))
  have HLO := Lib.hid hlo5
  have HC := Lib.hid (carray_row (W := (w5.alloc (.cells #[.int .i64 0, .int .u64 (t : Int), .slice none 0 0, .slice none 0 0, .int .i64 0, .int .u64 (n : Int), .slice none 0 0, .slice none 0 0, .int .i64 0, .int .u64 (f : Int), .slice none 0 0, .slice none 0 0, .int .i64 0, .int .u64 0, .slice none 0 0, .slice none 0 0, .int .i64 k5, .int .u64 (n5 : Int), .slice A5 nd5 cd5, .slice AL5 nl5 cl5] 42))) (lo := w.heap.size + 2) (n := 5) (cap := 5) (by simp; omega) (Nat.le_of_eq (by simp)) (Nat.lt_succ_self _) (ItC.row (t := 42) hlo5 hit) rfl (by decide) (by simp [pars, par]) (Nat.le_refl _))
  clear hlo5 hit x10 x11 x12 x13 x14 x20 x21 x22 x23 x24 x30 x31 x32 x33 x34 x40 x41 x42 x43 x44 x50 x51 x52 x53 x54
  go_wp2_with fail
  refine HC.out.mono ?_
  rintro e w6 ⟨v6, rfl, hv6, hb6⟩
  have hbE : Below (w.heap.size + 2) W0 w6 := (B6.out.mono (Nat.le_of_eq HS0.out.symm)).trans (hb6.mono (by have := HLO.out; simp; omega))
  clear hb6
  obtain ⟨k6, n6, A6, nd6, cd6, AL6, nl6, cl6, rfl⟩ := hv6.form
  obtain ⟨⟨z0, z1, z2, z3⟩, f0, f1, f2, f3⟩ := HZ.out _ hbE
  have V6 := Lib.hid hv6
  have BE := Lib.hid hbE
  clear hv6 hbE
  go_wp2_with fail
  refine bodyPost_ret (v := .agg #[.int .i64 k6, .int .u64 (n6 : Int), .slice A6 nd6 cd6, .slice AL6 nl6 cl6]) (by simp [results, Tryz.results37, go_sem, z0, z1, z2, z3]) rfl ⟨_, rfl, ?_, ?_⟩
  · exact V6.out.put4 (Nat.le_add_right _ 2) (Nat.lt_succ_self _) (Nat.le_of_eq size_put4.symm)
  · exact below_set4 (HB0.out.trans (BE.out.mono (Nat.le_add_right _ 2))) (Nat.le_succ _)

set_option maxRecDepth 100000 in
set_option maxHeartbeats 4000000 in
theorem bitem_1 (t n f : Nat) (A : Option Addr) (nd cd B : Nat) (d : List UInt8) (w : World) (ht : t < 18446744073709551616) (hn : n < 18446744073709551616) (hf : f < 18446744073709551616) (hB : B ≤ w.heap.size) (h : Rd w B A nd d) (hnd : nd ≤ 140737488355328) :
    Calls Tryz.prog 37 #[blkV t n f 1 A nd cd] w (GivesL w.heap.size (itmB ⟨t, n, f, 1, d⟩ (List.replicate 2 0)) w) := by
  have HX : Hid (itmB ⟨t, n, f, 1, d⟩ (List.replicate 2 0) = .mk 4 0 [] [.mk 0 t [] [], .mk 0 n [] [], .mk 0 f [] [], .mk 0 1 [] [], .mk 2 0 d [], .mk 2 0 (List.replicate 2 0) []]) := rfl
  rw [HX.out]
  have HT := Lib.hid (And.intro ht (And.intro hn hf))
  have hB0 := (((Below.refl w.heap.size w).alloc (Nat.le_refl _) (.cells #[.int .u64 (t : Int), .int .u64 (n : Int), .int .u64 (f : Int), .int .i64 1, .slice A nd cd] 25)).alloc (le_alloc _ _) (.cells #[.int .i64 0, .int .u64 0, .slice none 0 0, .slice none 0 0] 42))
  have hR0 := h.below (hB0.mono hB)
  have hb1 := ((Below.refl (w.heap.size + 1) (w.alloc (.cells #[.int .u64 (t : Int), .int .u64 (n : Int), .int .u64 (f : Int), .int .i64 1, .slice A nd cd] 25))).alloc (by simp) (.cells #[.int .i64 0, .int .u64 0, .slice none 0 0, .slice none 0 0] 42))
  obtain ⟨g10, g11, g12, g13, g14⟩ := box5 rfl hb1
  have hs0 : ((w.alloc (.cells #[.int .u64 (t : Int), .int .u64 (n : Int), .int .u64 (f : Int), .int .i64 1, .slice A nd cd] 25)).alloc (.cells #[.int .i64 0, .int .u64 0, .slice none 0 0, .slice none 0 0] 42)).heap.size = w.heap.size + 2 := by simp
  have hz := fun (W' : World) (hb : Below (w.heap.size + 2) ((w.alloc (.cells #[.int .u64 (t : Int), .int .u64 (n : Int), .int .u64 (f : Int), .int .i64 1, .slice A nd cd] 25)).alloc (.cells #[.int .i64 0, .int .u64 0, .slice none 0 0, .slice none 0 0] 42)) W') => zero4 (w := w.alloc (.cells #[.int .u64 (t : Int), .int .u64 (n : Int), .int .u64 (f : Int), .int .i64 1, .slice A nd cd] 25)) (g := w.heap.size + 1) (by simp) hb
  have HZ := Lib.hid hz
  have HB0 := Lib.hid hB0
  have HBW := Lib.hid hB
  have HRR := Lib.hid hR0
  have HNd := Lib.hid hnd
  have CU := Lib.hid cuintV
  clear h hB hnd ht hn hf hB0 hR0 hb1 hz
  unfold blkV
  go_enter Tryz.func37, Tryz.ntmps37
  go_wp2_with fail
  generalize ((w.alloc (.cells #[.int .u64 (t : Int), .int .u64 (n : Int), .int .u64 (f : Int), .int .i64 1, .slice A nd cd] 25)).alloc (.cells #[.int .i64 0, .int .u64 0, .slice none 0 0, .slice none 0 0] 42)) = W0 at *
  have hlt0 : w.heap.size < W0.heap.size := by omega
  have HS0 := Lib.hid hs0
  have CB : Hid (∀ (W : World), Below W0.heap.size W0 W → Calls Tryz.prog 56 #[.slice A nd cd] W (GivesL (w.heap.size + 2) (.mk 2 0 d []) W)) := fun W hb => cbytesL_any (w.heap.size + 2) A nd cd B d W (by have := hb.size; have := HS0.out; omega) (by have := hb.size; have := HS0.out; have := HBW.out; omega) (HRR.out.below (hb.mono (by have := HS0.out; have := HBW.out; omega))) HNd.out
  clear hs0
  go_region_held3 (fun W => W.cell? ⟨w.heap.size, 0, none⟩ = some (.int .u64 (t : Int)) ∧ W.cell? ⟨w.heap.size, 1, none⟩ = some (.int .u64 (n : Int)) ∧ W.cell? ⟨w.heap.size, 2, none⟩ = some (.int .u64 (f : Int)) ∧ W.cell? ⟨w.heap.size, 3, none⟩ = some (.int .i64 1) ∧ W.cell? ⟨w.heap.size, 4, none⟩ = some (.slice A nd cd))
    (first | (with_reducible exact ⟨x50, x51, x52, x53, x54⟩) | (with_reducible exact ⟨x40, x41, x42, x43, x44⟩) | (with_reducible exact ⟨x30, x31, x32, x33, x34⟩) | (with_reducible exact ⟨x20, x21, x22, x23, x24⟩) | (with_reducible exact ⟨x10, x11, x12, x13, x14⟩) | (exact ⟨g10, g11, g12, g13, g14⟩) | (exact ⟨(World.cell?_alloc_lt w5 _ ⟨w.heap.size, 0, none⟩ H5.out).trans x50, (World.cell?_alloc_lt w5 _ ⟨w.heap.size, 1, none⟩ H5.out).trans x51, (World.cell?_alloc_lt w5 _ ⟨w.heap.size, 2, none⟩ H5.out).trans x52, (World.cell?_alloc_lt w5 _ ⟨w.heap.size, 3, none⟩ H5.out).trans x53, (World.cell?_alloc_lt w5 _ ⟨w.heap.size, 4, none⟩ H5.out).trans x54⟩) | fail)
    (first
      | (go_at_call 56; refine (CB.out _ B4.out).mono ?_; rintro e w5 ⟨v5, rfl, hv5, hb5⟩; have hb5' := B4.out.trans (hb5.mono B4.out.size); have x50 := (hb5'.cell (p := ⟨w.heap.size, 0, none⟩) hlt0).trans g10; have x51 := (hb5'.cell (p := ⟨w.heap.size, 1, none⟩) hlt0).trans g11; have x52 := (hb5'.cell (p := ⟨w.heap.size, 2, none⟩) hlt0).trans g12; have x53 := (hb5'.cell (p := ⟨w.heap.size, 3, none⟩) hlt0).trans g13; have x54 := (hb5'.cell (p := ⟨w.heap.size, 4, none⟩) hlt0).trans g14; obtain ⟨k5, n5, A5, nd5, cd5, AL5, nl5, cl5, rfl⟩ := hv5.form; have V5 := Lib.hid hv5; have B5 := Lib.hid hb5'; have H5 : Hid (w.heap.size < w5.heap.size) := Nat.lt_of_lt_of_le hlt0 hb5'.size; clear hv5 hb5 hb5')
      | (go_at_call 55; have _g := B3; clear _g; refine (CU.out _ _).mono ?_; rintro e w4 ⟨rfl, hb4⟩; have hb4' := B3.out.trans (hb4.mono B3.out.size); have x40 := (hb4'.cell (p := ⟨w.heap.size, 0, none⟩) hlt0).trans g10; have x41 := (hb4'.cell (p := ⟨w.heap.size, 1, none⟩) hlt0).trans g11; have x42 := (hb4'.cell (p := ⟨w.heap.size, 2, none⟩) hlt0).trans g12; have x43 := (hb4'.cell (p := ⟨w.heap.size, 3, none⟩) hlt0).trans g13; have x44 := (hb4'.cell (p := ⟨w.heap.size, 4, none⟩) hlt0).trans g14; have B4 := Lib.hid hb4'; clear hb4 hb4')
      | (go_at_call 55; have _g := B2; clear _g; refine (CU.out _ _).mono ?_; rintro e w3 ⟨rfl, hb3⟩; have hb3' := B2.out.trans (hb3.mono B2.out.size); have x30 := (hb3'.cell (p := ⟨w.heap.size, 0, none⟩) hlt0).trans g10; have x31 := (hb3'.cell (p := ⟨w.heap.size, 1, none⟩) hlt0).trans g11; have x32 := (hb3'.cell (p := ⟨w.heap.size, 2, none⟩) hlt0).trans g12; have x33 := (hb3'.cell (p := ⟨w.heap.size, 3, none⟩) hlt0).trans g13; have x34 := (hb3'.cell (p := ⟨w.heap.size, 4, none⟩) hlt0).trans g14; have B3 := Lib.hid hb3'; clear hb3 hb3')
      | (go_at_call 55; have _g := B1; clear _g; refine (CU.out _ _).mono ?_; rintro e w2 ⟨rfl, hb2⟩; have hb2' := B1.out.trans (hb2.mono B1.out.size); have x20 := (hb2'.cell (p := ⟨w.heap.size, 0, none⟩) hlt0).trans g10; have x21 := (hb2'.cell (p := ⟨w.heap.size, 1, none⟩) hlt0).trans g11; have x22 := (hb2'.cell (p := ⟨w.heap.size, 2, none⟩) hlt0).trans g12; have x23 := (hb2'.cell (p := ⟨w.heap.size, 3, none⟩) hlt0).trans g13; have x24 := (hb2'.cell (p := ⟨w.heap.size, 4, none⟩) hlt0).trans g14; have B2 := Lib.hid hb2'; clear hb2 hb2')
      | (go_at_call 55; refine (CU.out _ _).mono ?_; rintro e w1 ⟨rfl, hb1⟩; have hb1' : Below W0.heap.size W0 w1 := Below.drew_.trans hb1; have x10 := (hb1'.cell (p := ⟨w.heap.size, 0, none⟩) hlt0).trans g10; have x11 := (hb1'.cell (p := ⟨w.heap.size, 1, none⟩) hlt0).trans g11; have x12 := (hb1'.cell (p := ⟨w.heap.size, 2, none⟩) hlt0).trans g12; have x13 := (hb1'.cell (p := ⟨w.heap.size, 3, none⟩) hlt0).trans g13; have x14 := (hb1'.cell (p := ⟨w.heap.size, 4, none⟩) hlt0).trans g14; have B1 := Lib.hid hb1'; clear hb1 hb1')
      | fail)
  have hlo5 : w.heap.size + 2 ≤ w5.heap.size := by have := B5.out.size; have := HS0.out; omega
  have hit : ItC (mask (lows (w.heap.size + 2)) w5) w5.heap.size [.int .i64 0, .int .u64 (t : Int), .slice none 0 0, .slice none 0 0, .int .i64 0, .int .u64 (n : Int), .slice none 0 0, .slice none 0 0, .int .i64 0, .int .u64 (f : Int), .slice none 0 0, .slice none 0 0, .int .i64 0, .int .u64 (IntKind.u64.wrap 1), .slice none 0 0, .slice none 0 0, .int .i64 k5, .int .u64 (n5 : Int), .slice A5 nd5 cd5, .slice AL5 nl5 cl5] [.mk 0 t [] [], .mk 0 n [] [], .mk 0 f [] [], .mk 0 1 [] [], .mk 2 0 d []] := ⟨RdI.mk_uint HT.out.1, RdI.mk_uint HT.out.2.1, RdI.mk_uint HT.out.2.2, RdI.mk_uint (n := 1) (by decide), V5.out, trivial⟩
  have y3 := (World.cell?_alloc_lt w5 (.cells #[.int .i64 0, .int .u64 (t : Int), .slice none 0 0, .slice none 0 0, .int .i64 0, .int .u64 (n : Int), .slice none 0 0, .slice none 0 0, .int .i64 0, .int .u64 (f : Int), .slice none 0 0, .slice none 0 0, .int .i64 0, .int .u64 (IntKind.u64.wrap 1), .slice none 0 0, .slice none 0 0, .int .i64 k5, .int .u64 (n5 : Int), .slice A5 nd5 cd5, .slice AL5 nl5 cl5] 42) ⟨w.heap.size, 3, none⟩ H5.out).trans x53
  have B6 := Lib.hid (B5.out.trans ((Below.refl w5.heap.size w5).alloc (Nat.le_refl _) (.cells #[.int .i64 0, .int .u64 (t : Int), .slice none 0 0, .slice none 0 0, .int .i64 0, .int .u64 (n : Int), .slice none 0 0, .slice none 0 0, .int .i64 0, .int .u64 (f : Int), .slice none 0 0, .slice none 0 0, .int .i64 0, .int .u64 (IntKind.u64.wrap 1), .slice none 0 0, .slice none 0 0, .int .i64 k5, .int .u64 (n5 : Int), .slice A5 nd5 cd5, .slice AL5 nl5 cl5] 42) |>.mono B5.out.size))
  have HLO := Lib.hid hlo5
  obtain ⟨i0, hi0, hz0, hz1, hz2⟩ := info_parts info_item
  have HI := Lib.hid hi0
  have HZ0 := Lib.hid hz0
  have HZ1 := Lib.hid hz1
  have HZ2 := Lib.hid hz2
  have HIT := Lib.hid hit
  have mkz := make_z2
  have CS := Lib.hid (fun W => sumsize_any 1 W)
  rw [show ((sumN 1 : Nat) : Int) = 2 from rfl] at CS
  have O6 : Hid ((w5.alloc (.cells #[.int .i64 0, .int .u64 (t : Int), .slice none 0 0, .slice none 0 0, .int .i64 0, .int .u64 (n : Int), .slice none 0 0, .slice none 0 0, .int .i64 0, .int .u64 (f : Int), .slice none 0 0, .slice none 0 0, .int .i64 0, .int .u64 (IntKind.u64.wrap 1), .slice none 0 0, .slice none 0 0, .int .i64 k5, .int .u64 (n5 : Int), .slice A5 nd5 cd5, .slice AL5 nl5 cl5] 42)).ownsRow (w.heap.size + 2) 42 4 (.slice (some ⟨w5.heap.size, 0, none⟩) 5 5) 5 [.int .i64 0, .int .u64 (t : Int), .slice none 0 0, .slice none 0 0, .int .i64 0, .int .u64 (n : Int), .slice none 0 0, .slice none 0 0, .int .i64 0, .int .u64 (f : Int), .slice none 0 0, .slice none 0 0, .int .i64 0, .int .u64 (IntKind.u64.wrap 1), .slice none 0 0, .slice none 0 0, .int .i64 k5, .int .u64 (n5 : Int), .slice A5 nd5 cd5, .slice AL5 nl5 cl5]) := World.ownsRow_lit (base := w.heap.size + 2) (e := 42) (size := 4) w5 #[.int .i64 0, .int .u64 (t : Int), .slice none 0 0, .slice none 0 0, .int .i64 0, .int .u64 (n : Int), .slice none 0 0, .slice none 0 0, .int .i64 0, .int .u64 (f : Int), .slice none 0 0, .slice none 0 0, .int .i64 0, .int .u64 (IntKind.u64.wrap 1), .slice none 0 0, .slice none 0 0, .int .i64 k5, .int .u64 (n5 : Int), .slice A5 nd5 cd5, .slice AL5 nl5 cl5] 5 hlo5 (by decide) rfl
  have HS6 : Hid ((w5.alloc (.cells #[.int .i64 0, .int .u64 (t : Int), .slice none 0 0, .slice none 0 0, .int .i64 0, .int .u64 (n : Int), .slice none 0 0, .slice none 0 0, .int .i64 0, .int .u64 (f : Int), .slice none 0 0, .slice none 0 0, .int .i64 0, .int .u64 (IntKind.u64.wrap 1), .slice none 0 0, .slice none 0 0, .int .i64 k5, .int .u64 (n5 : Int), .slice A5 nd5 cd5, .slice AL5 nl5 cl5] 42)).heap.size = w5.heap.size + 1) := by show _ = _; simp
  clear hlo5 hit hi0 hz0 hz1 hz2 x10 x11 x12 x13 x14 x20 x21 x22 x23 x24 x30 x31 x32 x33 x34 x40 x41 x42 x43 x44 x50 x51 x52 x53 x54
  generalize hW6 : (w5.alloc (.cells #[.int .i64 0, .int .u64 (t : Int), .slice none 0 0, .slice none 0 0, .int .i64 0, .int .u64 (n : Int), .slice none 0 0, .slice none 0 0, .int .i64 0, .int .u64 (f : Int), .slice none 0 0, .slice none 0 0, .int .i64 0, .int .u64 (IntKind.u64.wrap 1), .slice none 0 0, .slice none 0 0, .int .i64 k5, .int .u64 (n5 : Int), .slice A5 nd5 cd5, .slice AL5 nl5 cl5] 42)) = W6 at *
  have HW6 := Lib.hid hW6
  clear hW6
  have hlt6 : w.heap.size < W6.heap.size := by rw [HS6.out]; have := H5.out; omega
  go_wp2_with fail
  refine (CS.out _).mono ?_
  rintro e w7 ⟨rfl, hb7⟩
  have B7 := Lib.hid hb7
  have CB2 : Hid (Calls Tryz.prog 56 #[.slice (some ⟨w7.heap.size, 0, none⟩) 2 2] (w7.alloc (.cells #[.int .u8 0, .int .u8 0] 5)) (GivesL (w5.heap.size + 1) (.mk 2 0 (List.replicate 2 0) []) (w7.alloc (.cells #[.int .u8 0, .int .u8 0] 5)))) :=
    cbytesL_any (w5.heap.size + 1) (some ⟨w7.heap.size, 0, none⟩) 2 2 (w7.heap.size + 1) (List.replicate 2 0) _ (by have h1 := hb7.size; have := HS6.out; simp; omega) (Nat.le_of_eq (by simp)) (Rd.lit w7 w7.heap.size rfl (List.replicate 2 0) 5 #[.int .u8 0, .int .u8 0] rfl 2 rfl) (by decide)
  have B7' : Hid (Below W6.heap.size W6 (w7.alloc (.cells #[.int .u8 0, .int .u8 0] 5))) := hb7.alloc hb7.size _
  clear hb7
  go_wp2_with fail
  refine CB2.out.mono ?_
  rintro e w9 ⟨v9, rfl, hv9, hb9⟩
  obtain ⟨k9, n9, A9, nd9, cd9, AL9, nl9, cl9, rfl⟩ := hv9.form
  have B9 := Lib.hid (B7'.out.trans (hb9.mono B7'.out.size))
  have V9 := Lib.hid hv9
  have OX : Hid ((w9.alloc (.cells #[.int .i64 k9, .int .u64 (n9 : Int), .slice A9 nd9 cd9, .slice AL9 nl9 cl9] 42)).ownsRow (w.heap.size + 2) 42 4 (.slice (some ⟨w5.heap.size, 0, none⟩) 5 5) 5 [.int .i64 0, .int .u64 (t : Int), .slice none 0 0, .slice none 0 0, .int .i64 0, .int .u64 (n : Int), .slice none 0 0, .slice none 0 0, .int .i64 0, .int .u64 (f : Int), .slice none 0 0, .slice none 0 0, .int .i64 0, .int .u64 (IntKind.u64.wrap 1), .slice none 0 0, .slice none 0 0, .int .i64 k5, .int .u64 (n5 : Int), .slice A5 nd5 cd5, .slice AL5 nl5 cl5]) := ownsRow_below O6.out (B9.out.alloc B9.out.size _)
  have NX : Hid (∀ j u, ([.int .i64 k9, .int .u64 (n9 : Int), .slice A9 nd9 cd9, .slice AL9 nl9 cl9] : List Value)[j]? = some u → (w9.alloc (.cells #[.int .i64 k9, .int .u64 (n9 : Int), .slice A9 nd9 cd9, .slice AL9 nl9 cl9] 42)).cell? ((⟨w9.heap.size, 0, none⟩ : Addr).add j) = some u) := fun j u hj => by
    rw [show (⟨w9.heap.size, 0, none⟩ : Addr).add j = ⟨w9.heap.size, j, none⟩ by unfold Addr.add; split <;> simp_all, World.cell?_alloc_at _ _ _ _ rfl]
    simpa using hj
  have NO : Hid (∀ u ∈ ([.int .i64 k9, .int .u64 (n9 : Int), .slice A9 nd9 cd9, .slice AL9 nl9 cl9] : List Value), u.oneCell' = true) := fun u hu => by
    simp only [List.mem_cons, List.not_mem_nil, or_false] at hu
    rcases hu with rfl | rfl | rfl | rfl <;> rfl
  have HBS : Hid (w.heap.size + 2 ≤ (w9.alloc (.cells #[.int .i64 k9, .int .u64 (n9 : Int), .slice A9 nd9 cd9, .slice AL9 nl9 cl9] 42)).heap.size) := by show _ ≤ _; have h1 := B9.out.size; have := HS6.out; have := HLO.out; simp; omega
  clear hv9 hb9
  go_wp2_with (first
    | (at_builtin; refine wpList_append_lies _ rfl (.tmp 24) (.tmp 30) 40 rfl (w.heap.size + 2) 42 i0 _ 4 64 Tryz.underlying40 HI.out HZ0.out HZ1.out HZ2.out rfl (by decide) _ 5 _ rfl OX.out ⟨w9.heap.size, 0, none⟩ 1 1 _ rfl rfl NX.out NO.out (by decide) (by decide) (by decide) HBS.out _ rfl ?_; intro g cap wB ho hg hat hlt; have OB := Lib.hid ho; have GB := Lib.hid hg; have AT := Lib.hid hat; have LT := Lib.hid hlt; clear ho hg hat hlt)
    | fail)
  have hwB := GB.out.size
  have hw9 : w5.heap.size + 1 ≤ w9.heap.size := by have h1 := B9.out.size; have := HS6.out; omega
  have hsA : (w9.alloc (.cells #[.int .i64 k9, .int .u64 (n9 : Int), .slice A9 nd9 cd9, .slice AL9 nl9 cl9] 42)).heap.size = w9.heap.size + 1 := by simp
  have hblk : ∀ j, j < w9.heap.size → j ≠ w5.heap.size → wB.heap[j]? = w9.heap[j]? := fun j hj hne => by
    rw [GB.out.block j (by rw [hsA]; omega) (fun e => by cases e; exact hne rfl), Below.heap_alloc _ _ _ hj]
  have hblk5 : ∀ j, j < w5.heap.size → wB.heap[j]? = w5.heap[j]? := fun j hj => by
    have h6 := (B9.out.block j (by rw [HS6.out]; omega)).trans (show W6.heap[j]? = w5.heap[j]? by rw [← HW6.out]; exact Below.heap_alloc _ _ _ hj)
    rw [hblk j (by omega) (by omega), h6]
  have hitB : ItC (mask (lows (w.heap.size + 2)) wB) wB.heap.size ([.int .i64 0, .int .u64 (t : Int), .slice none 0 0, .slice none 0 0, .int .i64 0, .int .u64 (n : Int), .slice none 0 0, .slice none 0 0, .int .i64 0, .int .u64 (f : Int), .slice none 0 0, .slice none 0 0, .int .i64 0, .int .u64 (IntKind.u64.wrap 1), .slice none 0 0, .slice none 0 0, .int .i64 k5, .int .u64 (n5 : Int), .slice A5 nd5 cd5, .slice AL5 nl5 cl5] ++ [.int .i64 k9, .int .u64 (n9 : Int), .slice A9 nd9 cd9, .slice AL9 nl9 cl9]) ([.mk 0 t [] [], .mk 0 n [] [], .mk 0 f [] [], .mk 0 1 [] [], .mk 2 0 d []] ++ [.mk 2 0 (List.replicate 2 0) []]) :=
    ItC.snoc (V9.out.mask_go (by omega) (fun j hj hs => hblk j hj (by have := lows_f.1 hs; omega)) (fun j hj hs => lows_f.2 (by have := lows_f.1 hs; have := HLO.out; omega))) (HIT.out.mask_go (by omega) (fun j hj _ => hblk5 j hj) (fun _ _ h => h))
  have hlg : w.heap.size + 2 ≤ g := by
    rcases AT.out with h | h
    · cases h; exact HLO.out
    · rw [h, hsA]; have := HLO.out; omega
  have ho := OB.out
  have hcap : 6 ≤ cap := by
    rcases ho.2 with ⟨hv, _⟩ | ⟨g', cap', cur, hv, _, _, hnc, _⟩
    · cases hv
    · injection hv with _ _ h3
      omega
  have hBB : Below (w.heap.size + 2) W6 wB := (B9.out.mono (by rw [HS6.out]; have := HLO.out; omega)).trans ((Below.refl (w.heap.size + 2) w9).alloc (by have := HLO.out; omega) _ |>.trans ⟨GB.out.os, GB.out.tape, GB.out.output, GB.out.size, fun j hj => GB.out.block j (by rw [hsA]; have := HLO.out; omega) (fun e => by have e' : j = w5.heap.size := (by cases e; rfl); have := HLO.out; omega)⟩)
  have HC := Lib.hid (carray_row (W := wB) (b := g) (B := wB.heap.size) (lo := w.heap.size + 2) (n := 6) (cap := cap) (by have := HLO.out; omega) (Nat.le_refl _) LT.out (ItC.lie hitB (fun j u hj => by
    have hjl : j < 6 * 4 := by
      rcases Nat.lt_or_ge j 24 with h | h
      · exact h
      · rw [List.getElem?_eq_none (by simpa using h)] at hj; cases hj
    rw [Nat.zero_add, mask_cell (lows_f.2 hlg), World.ownsRow.cellAt ho j hjl]
    exact hj)) rfl (by decide) (by simp [pars, par]) hcap)
  have HBB := Lib.hid hBB
  have HWB := Lib.hid (show w.heap.size + 2 ≤ wB.heap.size by have := HLO.out; omega)
  clear hwB hw9 hsA hblk hblk5 hitB hlg ho hcap hBB
  go_wp2_with fail
  refine HC.out.mono ?_
  rintro e w6 ⟨v6, rfl, hv6, hb6⟩
  have hbE : Below (w.heap.size + 2) W0 w6 := ((B6.out.mono (Nat.le_of_eq HS0.out.symm)).trans HBB.out).trans (hb6.mono HWB.out)
  clear hb6
  obtain ⟨k6, n6, A6, nd6, cd6, AL6, nl6, cl6, rfl⟩ := hv6.form
  obtain ⟨⟨z0, z1, z2, z3⟩, f0, f1, f2, f3⟩ := HZ.out _ hbE
  have V6 := Lib.hid hv6
  have BE := Lib.hid hbE
  clear hv6 hbE
  go_wp2_with fail
  refine bodyPost_ret (v := .agg #[.int .i64 k6, .int .u64 (n6 : Int), .slice A6 nd6 cd6, .slice AL6 nl6 cl6]) (by simp [results, Tryz.results37, go_sem, z0, z1, z2, z3]) rfl ⟨_, rfl, ?_, ?_⟩
  · exact V6.out.put4 (Nat.le_add_right _ 2) (Nat.lt_succ_self _) (Nat.le_of_eq size_put4.symm)
  · exact below_set4 (HB0.out.trans (BE.out.mono (Nat.le_add_right _ 2))) (Nat.le_succ _)

set_option maxRecDepth 100000 in
set_option maxHeartbeats 4000000 in
theorem bitem_2 (t n f : Nat) (A : Option Addr) (nd cd B : Nat) (d : List UInt8) (w : World) (ht : t < 18446744073709551616) (hn : n < 18446744073709551616) (hf : f < 18446744073709551616) (hB : B ≤ w.heap.size) (h : Rd w B A nd d) (hnd : nd ≤ 140737488355328) :
    Calls Tryz.prog 37 #[blkV t n f 2 A nd cd] w (GivesL w.heap.size (itmB ⟨t, n, f, 2, d⟩ (List.replicate 4 0)) w) := by
  have HX : Hid (itmB ⟨t, n, f, 2, d⟩ (List.replicate 4 0) = .mk 4 0 [] [.mk 0 t [] [], .mk 0 n [] [], .mk 0 f [] [], .mk 0 2 [] [], .mk 2 0 d [], .mk 2 0 (List.replicate 4 0) []]) := rfl
  rw [HX.out]
  have HT := Lib.hid (And.intro ht (And.intro hn hf))
  have hB0 := (((Below.refl w.heap.size w).alloc (Nat.le_refl _) (.cells #[.int .u64 (t : Int), .int .u64 (n : Int), .int .u64 (f : Int), .int .i64 2, .slice A nd cd] 25)).alloc (le_alloc _ _) (.cells #[.int .i64 0, .int .u64 0, .slice none 0 0, .slice none 0 0] 42))
  have hR0 := h.below (hB0.mono hB)
  have hb1 := ((Below.refl (w.heap.size + 1) (w.alloc (.cells #[.int .u64 (t : Int), .int .u64 (n : Int), .int .u64 (f : Int), .int .i64 2, .slice A nd cd] 25))).alloc (by simp) (.cells #[.int .i64 0, .int .u64 0, .slice none 0 0, .slice none 0 0] 42))
  obtain ⟨g10, g11, g12, g13, g14⟩ := box5 rfl hb1
  have hs0 : ((w.alloc (.cells #[.int .u64 (t : Int), .int .u64 (n : Int), .int .u64 (f : Int), .int .i64 2, .slice A nd cd] 25)).alloc (.cells #[.int .i64 0, .int .u64 0, .slice none 0 0, .slice none 0 0] 42)).heap.size = w.heap.size + 2 := by simp
  have hz := fun (W' : World) (hb : Below (w.heap.size + 2) ((w.alloc (.cells #[.int .u64 (t : Int), .int .u64 (n : Int), .int .u64 (f : Int), .int .i64 2, .slice A nd cd] 25)).alloc (.cells #[.int .i64 0, .int .u64 0, .slice none 0 0, .slice none 0 0] 42)) W') => zero4 (w := w.alloc (.cells #[.int .u64 (t : Int), .int .u64 (n : Int), .int .u64 (f : Int), .int .i64 2, .slice A nd cd] 25)) (g := w.heap.size + 1) (by simp) hb
  have HZ := Lib.hid hz
  have HB0 := Lib.hid hB0
  have HBW := Lib.hid hB
  have HRR := Lib.hid hR0
  have HNd := Lib.hid hnd
  have CU := Lib.hid cuintV
  clear h hB hnd ht hn hf hB0 hR0 hb1 hz
  unfold blkV
  go_enter Tryz.func37, Tryz.ntmps37
  go_wp2_with fail
  generalize ((w.alloc (.cells #[.int .u64 (t : Int), .int .u64 (n : Int), .int .u64 (f : Int), .int .i64 2, .slice A nd cd] 25)).alloc (.cells #[.int .i64 0, .int .u64 0, .slice none 0 0, .slice none 0 0] 42)) = W0 at *
  have hlt0 : w.heap.size < W0.heap.size := by omega
  have HS0 := Lib.hid hs0
  have CB : Hid (∀ (W : World), Below W0.heap.size W0 W → Calls Tryz.prog 56 #[.slice A nd cd] W (GivesL (w.heap.size + 2) (.mk 2 0 d []) W)) := fun W hb => cbytesL_any (w.heap.size + 2) A nd cd B d W (by have := hb.size; have := HS0.out; omega) (by have := hb.size; have := HS0.out; have := HBW.out; omega) (HRR.out.below (hb.mono (by have := HS0.out; have := HBW.out; omega))) HNd.out
  clear hs0
  go_region_held3 (fun W => W.cell? ⟨w.heap.size, 0, none⟩ = some (.int .u64 (t : Int)) ∧ W.cell? ⟨w.heap.size, 1, none⟩ = some (.int .u64 (n : Int)) ∧ W.cell? ⟨w.heap.size, 2, none⟩ = some (.int .u64 (f : Int)) ∧ W.cell? ⟨w.heap.size, 3, none⟩ = some (.int .i64 2) ∧ W.cell? ⟨w.heap.size, 4, none⟩ = some (.slice A nd cd))
    (first | (with_reducible exact ⟨x50, x51, x52, x53, x54⟩) | (with_reducible exact ⟨x40, x41, x42, x43, x44⟩) | (with_reducible exact ⟨x30, x31, x32, x33, x34⟩) | (with_reducible exact ⟨x20, x21, x22, x23, x24⟩) | (with_reducible exact ⟨x10, x11, x12, x13, x14⟩) | (exact ⟨g10, g11, g12, g13, g14⟩) | (exact ⟨(World.cell?_alloc_lt w5 _ ⟨w.heap.size, 0, none⟩ H5.out).trans x50, (World.cell?_alloc_lt w5 _ ⟨w.heap.size, 1, none⟩ H5.out).trans x51, (World.cell?_alloc_lt w5 _ ⟨w.heap.size, 2, none⟩ H5.out).trans x52, (World.cell?_alloc_lt w5 _ ⟨w.heap.size, 3, none⟩ H5.out).trans x53, (World.cell?_alloc_lt w5 _ ⟨w.heap.size, 4, none⟩ H5.out).trans x54⟩) | fail)
    (first
      | (go_at_call 56; refine (CB.out _ B4.out).mono ?_; rintro e w5 ⟨v5, rfl, hv5, hb5⟩; have hb5' := B4.out.trans (hb5.mono B4.out.size); have x50 := (hb5'.cell (p := ⟨w.heap.size, 0, none⟩) hlt0).trans g10; have x51 := (hb5'.cell (p := ⟨w.heap.size, 1, none⟩) hlt0).trans g11; have x52 := (hb5'.cell (p := ⟨w.heap.size, 2, none⟩) hlt0).trans g12; have x53 := (hb5'.cell (p := ⟨w.heap.size, 3, none⟩) hlt0).trans g13; have x54 := (hb5'.cell (p := ⟨w.heap.size, 4, none⟩) hlt0).trans g14; obtain ⟨k5, n5, A5, nd5, cd5, AL5, nl5, cl5, rfl⟩ := hv5.form; have V5 := Lib.hid hv5; have B5 := Lib.hid hb5'; have H5 : Hid (w.heap.size < w5.heap.size) := Nat.lt_of_lt_of_le hlt0 hb5'.size; clear hv5 hb5 hb5')
      | (go_at_call 55; have _g := B3; clear _g; refine (CU.out _ _).mono ?_; rintro e w4 ⟨rfl, hb4⟩; have hb4' := B3.out.trans (hb4.mono B3.out.size); have x40 := (hb4'.cell (p := ⟨w.heap.size, 0, none⟩) hlt0).trans g10; have x41 := (hb4'.cell (p := ⟨w.heap.size, 1, none⟩) hlt0).trans g11; have x42 := (hb4'.cell (p := ⟨w.heap.size, 2, none⟩) hlt0).trans g12; have x43 := (hb4'.cell (p := ⟨w.heap.size, 3, none⟩) hlt0).trans g13; have x44 := (hb4'.cell (p := ⟨w.heap.size, 4, none⟩) hlt0).trans g14; have B4 := Lib.hid hb4'; clear hb4 hb4')
      | (go_at_call 55; have _g := B2; clear _g; refine (CU.out _ _).mono ?_; rintro e w3 ⟨rfl, hb3⟩; have hb3' := B2.out.trans (hb3.mono B2.out.size); have x30 := (hb3'.cell (p := ⟨w.heap.size, 0, none⟩) hlt0).trans g10; have x31 := (hb3'.cell (p := ⟨w.heap.size, 1, none⟩) hlt0).trans g11; have x32 := (hb3'.cell (p := ⟨w.heap.size, 2, none⟩) hlt0).trans g12; have x33 := (hb3'.cell (p := ⟨w.heap.size, 3, none⟩) hlt0).trans g13; have x34 := (hb3'.cell (p := ⟨w.heap.size, 4, none⟩) hlt0).trans g14; have B3 := Lib.hid hb3'; clear hb3 hb3')
      | (go_at_call 55; have _g := B1; clear _g; refine (CU.out _ _).mono ?_; rintro e w2 ⟨rfl, hb2⟩; have hb2' := B1.out.trans (hb2.mono B1.out.size); have x20 := (hb2'.cell (p := ⟨w.heap.size, 0, none⟩) hlt0).trans g10; have x21 := (hb2'.cell (p := ⟨w.heap.size, 1, none⟩) hlt0).trans g11; have x22 := (hb2'.cell (p := ⟨w.heap.size, 2, none⟩) hlt0).trans g12; have x23 := (hb2'.cell (p := ⟨w.heap.size, 3, none⟩) hlt0).trans g13; have x24 := (hb2'.cell (p := ⟨w.heap.size, 4, none⟩) hlt0).trans g14; have B2 := Lib.hid hb2'; clear hb2 hb2')
      | (go_at_call 55; refine (CU.out _ _).mono ?_; rintro e w1 ⟨rfl, hb1⟩; have hb1' : Below W0.heap.size W0 w1 := Below.drew_.trans hb1; have x10 := (hb1'.cell (p := ⟨w.heap.size, 0, none⟩) hlt0).trans g10; have x11 := (hb1'.cell (p := ⟨w.heap.size, 1, none⟩) hlt0).trans g11; have x12 := (hb1'.cell (p := ⟨w.heap.size, 2, none⟩) hlt0).trans g12; have x13 := (hb1'.cell (p := ⟨w.heap.size, 3, none⟩) hlt0).trans g13; have x14 := (hb1'.cell (p := ⟨w.heap.size, 4, none⟩) hlt0).trans g14; have B1 := Lib.hid hb1'; clear hb1 hb1')
      | fail)
  have hlo5 : w.heap.size + 2 ≤ w5.heap.size := by have := B5.out.size; have := HS0.out; omega
  have hit : ItC (mask (lows (w.heap.size + 2)) w5) w5.heap.size [.int .i64 0, .int .u64 (t : Int), .slice none 0 0, .slice none 0 0, .int .i64 0, .int .u64 (n : Int), .slice none 0 0, .slice none 0 0, .int .i64 0, .int .u64 (f : Int), .slice none 0 0, .slice none 0 0, .int .i64 0, .int .u64 (IntKind.u64.wrap 2), .slice none 0 0, .slice none 0 0, .int .i64 k5, .int .u64 (n5 : Int), .slice A5 nd5 cd5, .slice AL5 nl5 cl5] [.mk 0 t [] [], .mk 0 n [] [], .mk 0 f [] [], .mk 0 2 [] [], .mk 2 0 d []] := ⟨RdI.mk_uint HT.out.1, RdI.mk_uint HT.out.2.1, RdI.mk_uint HT.out.2.2, RdI.mk_uint (n := 2) (by decide), V5.out, trivial⟩
  have y3 := (World.cell?_alloc_lt w5 (.cells #[.int .i64 0, .int .u64 (t : Int), .slice none 0 0, .slice none 0 0, .int .i64 0, .int .u64 (n : Int), .slice none 0 0, .slice none 0 0, .int .i64 0, .int .u64 (f : Int), .slice none 0 0, .slice none 0 0, .int .i64 0, .int .u64 (IntKind.u64.wrap 2), .slice none 0 0, .slice none 0 0, .int .i64 k5, .int .u64 (n5 : Int), .slice A5 nd5 cd5, .slice AL5 nl5 cl5] 42) ⟨w.heap.size, 3, none⟩ H5.out).trans x53
  have B6 := Lib.hid (B5.out.trans ((Below.refl w5.heap.size w5).alloc (Nat.le_refl _) (.cells #[.int .i64 0, .int .u64 (t : Int), .slice none 0 0, .slice none 0 0, .int .i64 0, .int .u64 (n : Int), .slice none 0 0, .slice none 0 0, .int .i64 0, .int .u64 (f : Int), .slice none 0 0, .slice none 0 0, .int .i64 0, .int .u64 (IntKind.u64.wrap 2), .slice none 0 0, .slice none 0 0, .int .i64 k5, .int .u64 (n5 : Int), .slice A5 nd5 cd5, .slice AL5 nl5 cl5] 42) |>.mono B5.out.size))
  have HLO := Lib.hid hlo5
  obtain ⟨i0, hi0, hz0, hz1, hz2⟩ := info_parts info_item
  have HI := Lib.hid hi0
  have HZ0 := Lib.hid hz0
  have HZ1 := Lib.hid hz1
  have HZ2 := Lib.hid hz2
  have HIT := Lib.hid hit
  have mkz := make_z4
  have CS := Lib.hid (fun W => sumsize_any 2 W)
  rw [show ((sumN 2 : Nat) : Int) = 4 from rfl] at CS
  have O6 : Hid ((w5.alloc (.cells #[.int .i64 0, .int .u64 (t : Int), .slice none 0 0, .slice none 0 0, .int .i64 0, .int .u64 (n : Int), .slice none 0 0, .slice none 0 0, .int .i64 0, .int .u64 (f : Int), .slice none 0 0, .slice none 0 0, .int .i64 0, .int .u64 (IntKind.u64.wrap 2), .slice none 0 0, .slice none 0 0, .int .i64 k5, .int .u64 (n5 : Int), .slice A5 nd5 cd5, .slice AL5 nl5 cl5] 42)).ownsRow (w.heap.size + 2) 42 4 (.slice (some ⟨w5.heap.size, 0, none⟩) 5 5) 5 [.int .i64 0, .int .u64 (t : Int), .slice none 0 0, .slice none 0 0, .int .i64 0, .int .u64 (n : Int), .slice none 0 0, .slice none 0 0, .int .i64 0, .int .u64 (f : Int), .slice none 0 0, .slice none 0 0, .int .i64 0, .int .u64 (IntKind.u64.wrap 2), .slice none 0 0, .slice none 0 0, .int .i64 k5, .int .u64 (n5 : Int), .slice A5 nd5 cd5, .slice AL5 nl5 cl5]) := World.ownsRow_lit (base := w.heap.size + 2) (e := 42) (size := 4) w5 #[.int .i64 0, .int .u64 (t : Int), .slice none 0 0, .slice none 0 0, .int .i64 0, .int .u64 (n : Int), .slice none 0 0, .slice none 0 0, .int .i64 0, .int .u64 (f : Int), .slice none 0 0, .slice none 0 0, .int .i64 0, .int .u64 (IntKind.u64.wrap 2), .slice none 0 0, .slice none 0 0, .int .i64 k5, .int .u64 (n5 : Int), .slice A5 nd5 cd5, .slice AL5 nl5 cl5] 5 hlo5 (by decide) rfl
  have HS6 : Hid ((w5.alloc (.cells #[.int .i64 0, .int .u64 (t : Int), .slice none 0 0, .slice none 0 0, .int .i64 0, .int .u64 (n : Int), .slice none 0 0, .slice none 0 0, .int .i64 0, .int .u64 (f : Int), .slice none 0 0, .slice none 0 0, .int .i64 0, .int .u64 (IntKind.u64.wrap 2), .slice none 0 0, .slice none 0 0, .int .i64 k5, .int .u64 (n5 : Int), .slice A5 nd5 cd5, .slice AL5 nl5 cl5] 42)).heap.size = w5.heap.size + 1) := by show _ = _; simp
  clear hlo5 hit hi0 hz0 hz1 hz2 x10 x11 x12 x13 x14 x20 x21 x22 x23 x24 x30 x31 x32 x33 x34 x40 x41 x42 x43 x44 x50 x51 x52 x53 x54
  generalize hW6 : (w5.alloc (.cells #[.int .i64 0, .int .u64 (t : Int), .slice none 0 0, .slice none 0 0, .int .i64 0, .int .u64 (n : Int), .slice none 0 0, .slice none 0 0, .int .i64 0, .int .u64 (f : Int), .slice none 0 0, .slice none 0 0, .int .i64 0, .int .u64 (IntKind.u64.wrap 2), .slice none 0 0, .slice none 0 0, .int .i64 k5, .int .u64 (n5 : Int), .slice A5 nd5 cd5, .slice AL5 nl5 cl5] 42)) = W6 at *
  have HW6 := Lib.hid hW6
  clear hW6
  have hlt6 : w.heap.size < W6.heap.size := by rw [HS6.out]; have := H5.out; omega
  go_wp2_with fail
  refine (CS.out _).mono ?_
  rintro e w7 ⟨rfl, hb7⟩
  have B7 := Lib.hid hb7
  have CB2 : Hid (Calls Tryz.prog 56 #[.slice (some ⟨w7.heap.size, 0, none⟩) 4 4] (w7.alloc (.cells #[.int .u8 0, .int .u8 0, .int .u8 0, .int .u8 0] 5)) (GivesL (w5.heap.size + 1) (.mk 2 0 (List.replicate 4 0) []) (w7.alloc (.cells #[.int .u8 0, .int .u8 0, .int .u8 0, .int .u8 0] 5)))) :=
    cbytesL_any (w5.heap.size + 1) (some ⟨w7.heap.size, 0, none⟩) 4 4 (w7.heap.size + 1) (List.replicate 4 0) _ (by have h1 := hb7.size; have := HS6.out; simp; omega) (Nat.le_of_eq (by simp)) (Rd.lit w7 w7.heap.size rfl (List.replicate 4 0) 5 #[.int .u8 0, .int .u8 0, .int .u8 0, .int .u8 0] rfl 4 rfl) (by decide)
  have B7' : Hid (Below W6.heap.size W6 (w7.alloc (.cells #[.int .u8 0, .int .u8 0, .int .u8 0, .int .u8 0] 5))) := hb7.alloc hb7.size _
  clear hb7
  go_wp2_with fail
  refine CB2.out.mono ?_
  rintro e w9 ⟨v9, rfl, hv9, hb9⟩
  obtain ⟨k9, n9, A9, nd9, cd9, AL9, nl9, cl9, rfl⟩ := hv9.form
  have B9 := Lib.hid (B7'.out.trans (hb9.mono B7'.out.size))
  have V9 := Lib.hid hv9
  have OX : Hid ((w9.alloc (.cells #[.int .i64 k9, .int .u64 (n9 : Int), .slice A9 nd9 cd9, .slice AL9 nl9 cl9] 42)).ownsRow (w.heap.size + 2) 42 4 (.slice (some ⟨w5.heap.size, 0, none⟩) 5 5) 5 [.int .i64 0, .int .u64 (t : Int), .slice none 0 0, .slice none 0 0, .int .i64 0, .int .u64 (n : Int), .slice none 0 0, .slice none 0 0, .int .i64 0, .int .u64 (f : Int), .slice none 0 0, .slice none 0 0, .int .i64 0, .int .u64 (IntKind.u64.wrap 2), .slice none 0 0, .slice none 0 0, .int .i64 k5, .int .u64 (n5 : Int), .slice A5 nd5 cd5, .slice AL5 nl5 cl5]) := ownsRow_below O6.out (B9.out.alloc B9.out.size _)
  have NX : Hid (∀ j u, ([.int .i64 k9, .int .u64 (n9 : Int), .slice A9 nd9 cd9, .slice AL9 nl9 cl9] : List Value)[j]? = some u → (w9.alloc (.cells #[.int .i64 k9, .int .u64 (n9 : Int), .slice A9 nd9 cd9, .slice AL9 nl9 cl9] 42)).cell? ((⟨w9.heap.size, 0, none⟩ : Addr).add j) = some u) := fun j u hj => by
    rw [show (⟨w9.heap.size, 0, none⟩ : Addr).add j = ⟨w9.heap.size, j, none⟩ by unfold Addr.add; split <;> simp_all, World.cell?_alloc_at _ _ _ _ rfl]
    simpa using hj
  have NO : Hid (∀ u ∈ ([.int .i64 k9, .int .u64 (n9 : Int), .slice A9 nd9 cd9, .slice AL9 nl9 cl9] : List Value), u.oneCell' = true) := fun u hu => by
    simp only [List.mem_cons, List.not_mem_nil, or_false] at hu
    rcases hu with rfl | rfl | rfl | rfl <;> rfl
  have HBS : Hid (w.heap.size + 2 ≤ (w9.alloc (.cells #[.int .i64 k9, .int .u64 (n9 : Int), .slice A9 nd9 cd9, .slice AL9 nl9 cl9] 42)).heap.size) := by show _ ≤ _; have h1 := B9.out.size; have := HS6.out; have := HLO.out; simp; omega
  clear hv9 hb9
  go_wp2_with (first
    | (at_builtin; refine wpList_append_lies _ rfl (.tmp 24) (.tmp 30) 40 rfl (w.heap.size + 2) 42 i0 _ 4 64 Tryz.underlying40 HI.out HZ0.out HZ1.out HZ2.out rfl (by decide) _ 5 _ rfl OX.out ⟨w9.heap.size, 0, none⟩ 1 1 _ rfl rfl NX.out NO.out (by decide) (by decide) (by decide) HBS.out _ rfl ?_; intro g cap wB ho hg hat hlt; have OB := Lib.hid ho; have GB := Lib.hid hg; have AT := Lib.hid hat; have LT := Lib.hid hlt; clear ho hg hat hlt)
    | fail)
  have hwB := GB.out.size
  have hw9 : w5.heap.size + 1 ≤ w9.heap.size := by have h1 := B9.out.size; have := HS6.out; omega
  have hsA : (w9.alloc (.cells #[.int .i64 k9, .int .u64 (n9 : Int), .slice A9 nd9 cd9, .slice AL9 nl9 cl9] 42)).heap.size = w9.heap.size + 1 := by simp
  have hblk : ∀ j, j < w9.heap.size → j ≠ w5.heap.size → wB.heap[j]? = w9.heap[j]? := fun j hj hne => by
    rw [GB.out.block j (by rw [hsA]; omega) (fun e => by cases e; exact hne rfl), Below.heap_alloc _ _ _ hj]
  have hblk5 : ∀ j, j < w5.heap.size → wB.heap[j]? = w5.heap[j]? := fun j hj => by
    have h6 := (B9.out.block j (by rw [HS6.out]; omega)).trans (show W6.heap[j]? = w5.heap[j]? by rw [← HW6.out]; exact Below.heap_alloc _ _ _ hj)
    rw [hblk j (by omega) (by omega), h6]
  have hitB : ItC (mask (lows (w.heap.size + 2)) wB) wB.heap.size ([.int .i64 0, .int .u64 (t : Int), .slice none 0 0, .slice none 0 0, .int .i64 0, .int .u64 (n : Int), .slice none 0 0, .slice none 0 0, .int .i64 0, .int .u64 (f : Int), .slice none 0 0, .slice none 0 0, .int .i64 0, .int .u64 (IntKind.u64.wrap 2), .slice none 0 0, .slice none 0 0, .int .i64 k5, .int .u64 (n5 : Int), .slice A5 nd5 cd5, .slice AL5 nl5 cl5] ++ [.int .i64 k9, .int .u64 (n9 : Int), .slice A9 nd9 cd9, .slice AL9 nl9 cl9]) ([.mk 0 t [] [], .mk 0 n [] [], .mk 0 f [] [], .mk 0 2 [] [], .mk 2 0 d []] ++ [.mk 2 0 (List.replicate 4 0) []]) :=
    ItC.snoc (V9.out.mask_go (by omega) (fun j hj hs => hblk j hj (by have := lows_f.1 hs; omega)) (fun j hj hs => lows_f.2 (by have := lows_f.1 hs; have := HLO.out; omega))) (HIT.out.mask_go (by omega) (fun j hj _ => hblk5 j hj) (fun _ _ h => h))
  have hlg : w.heap.size + 2 ≤ g := by
    rcases AT.out with h | h
    · cases h; exact HLO.out
    · rw [h, hsA]; have := HLO.out; omega
  have ho := OB.out
  have hcap : 6 ≤ cap := by
    rcases ho.2 with ⟨hv, _⟩ | ⟨g', cap', cur, hv, _, _, hnc, _⟩
    · cases hv
    · injection hv with _ _ h3
      omega
  have hBB : Below (w.heap.size + 2) W6 wB := (B9.out.mono (by rw [HS6.out]; have := HLO.out; omega)).trans ((Below.refl (w.heap.size + 2) w9).alloc (by have := HLO.out; omega) _ |>.trans ⟨GB.out.os, GB.out.tape, GB.out.output, GB.out.size, fun j hj => GB.out.block j (by rw [hsA]; have := HLO.out; omega) (fun e => by have e' : j = w5.heap.size := (by cases e; rfl); have := HLO.out; omega)⟩)
  have HC := Lib.hid (carray_row (W := wB) (b := g) (B := wB.heap.size) (lo := w.heap.size + 2) (n := 6) (cap := cap) (by have := HLO.out; omega) (Nat.le_refl _) LT.out (ItC.lie hitB (fun j u hj => by
    have hjl : j < 6 * 4 := by
      rcases Nat.lt_or_ge j 24 with h | h
      · exact h
      · rw [List.getElem?_eq_none (by simpa using h)] at hj; cases hj
    rw [Nat.zero_add, mask_cell (lows_f.2 hlg), World.ownsRow.cellAt ho j hjl]
    exact hj)) rfl (by decide) (by simp [pars, par]) hcap)
  have HBB := Lib.hid hBB
  have HWB := Lib.hid (show w.heap.size + 2 ≤ wB.heap.size by have := HLO.out; omega)
  clear hwB hw9 hsA hblk hblk5 hitB hlg ho hcap hBB
  go_wp2_with fail
  refine HC.out.mono ?_
  rintro e w6 ⟨v6, rfl, hv6, hb6⟩
  have hbE : Below (w.heap.size + 2) W0 w6 := ((B6.out.mono (Nat.le_of_eq HS0.out.symm)).trans HBB.out).trans (hb6.mono HWB.out)
  clear hb6
  obtain ⟨k6, n6, A6, nd6, cd6, AL6, nl6, cl6, rfl⟩ := hv6.form
  obtain ⟨⟨z0, z1, z2, z3⟩, f0, f1, f2, f3⟩ := HZ.out _ hbE
  have V6 := Lib.hid hv6
  have BE := Lib.hid hbE
  clear hv6 hbE
  go_wp2_with fail
  refine bodyPost_ret (v := .agg #[.int .i64 k6, .int .u64 (n6 : Int), .slice A6 nd6 cd6, .slice AL6 nl6 cl6]) (by simp [results, Tryz.results37, go_sem, z0, z1, z2, z3]) rfl ⟨_, rfl, ?_, ?_⟩
  · exact V6.out.put4 (Nat.le_add_right _ 2) (Nat.lt_succ_self _) (Nat.le_of_eq size_put4.symm)
  · exact below_set4 (HB0.out.trans (BE.out.mono (Nat.le_add_right _ 2))) (Nat.le_succ _)
end Go.Proofs.YtbdjkihgcmebgaaGreatDoor
