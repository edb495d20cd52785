/- From of layer 4's reference. (Made by gen/RfS.py.) -/
import Derived.Test.YtanbjifdcplmnaaGreatDoorTBlkP
import Derived.Test.YtanbjifdcplmnaaGreatDoorTBunT
import Derived.Test.YtanbjifdcplmnaaGreatDoorTEidF
import Derived.Test.YtanbjifdcplmnaaGreatDoorTRfN
namespace Go.Proofs.YtanbjifdcplmnaaGreatDoor
open Go.RowKit

/-- A store of one cell of a box of four. -/
theorem set4_1 {W : World} {g : Nat} {t : TypeId} {c0 c1 c2 c3 : Value} (v : Value) (h : W.heap[g]? = some (.cells #[c0, c1, c2, c3] t (0, 0))) : (W.setCell ⟨g, 1, none⟩ v).heap[g]? = some (.cells #[c0, v, c2, c3] t (0, 0)) := by
  rw [setCell_eq_setRow W g 1 #[c0, c1, c2, c3] t (0, 0) v h]; exact setRow_heap W g _ _ t _ h
theorem set4_2 {W : World} {g : Nat} {t : TypeId} {c0 c1 c2 c3 : Value} (v : Value) (h : W.heap[g]? = some (.cells #[c0, c1, c2, c3] t (0, 0))) : (W.setCell ⟨g, 2, none⟩ v).heap[g]? = some (.cells #[c0, c1, v, c3] t (0, 0)) := by
  rw [setCell_eq_setRow W g 2 #[c0, c1, c2, c3] t (0, 0) v h]; exact setRow_heap W g _ _ t _ h
theorem set4_3 {W : World} {g : Nat} {t : TypeId} {c0 c1 c2 c3 : Value} (v : Value) (h : W.heap[g]? = some (.cells #[c0, c1, c2, c3] t (0, 0))) : (W.setCell ⟨g, 3, none⟩ v).heap[g]? = some (.cells #[c0, c1, c2, v] t (0, 0)) := by
  rw [setCell_eq_setRow W g 3 #[c0, c1, c2, c3] t (0, 0) v h]; exact setRow_heap W g _ _ t _ h
theorem row4_cells {W : World} {g : Nat} {t : TypeId} {c0 c1 c2 c3 : Value} (h : W.heap[g]? = some (.cells #[c0, c1, c2, c3] t (0, 0))) : W.cell? ⟨g, 0, none⟩ = some c0 ∧ W.cell? ⟨g, 1, none⟩ = some c1 ∧ W.cell? ⟨g, 2, none⟩ = some c2 ∧ W.cell? ⟨g, 3, none⟩ = some c3 := ⟨cell_row h 0 rfl, cell_row h 1 rfl, cell_row h 2 rfl, cell_row h 3 rfl⟩
/-- An endpoint that may be is of scheme 1 or 2, and its item begins so. -/
theorem sch_of {e : Epd} (h : checkB e = true) : e.scheme = 1 ∨ e.scheme = 2 := by
  by_cases h1 : e.scheme = 1
  · exact .inl h1
  · exact .inr (check_ipn h h1).1

/-- The four boxes of From: the item's, the answer's, the endpoint's; what lies in them. -/
structure FrSt (w W : World) (g gE : Nat) (cx ce : Array Value) : Prop where
  below : Below g w W
  x : W.heap[g]? = some (.cells cx 37 (0, 0))
  z : W.heap[g + 1]? = some (.cells #[.int .i64 0, .string ⟨#[]⟩, .int .u64 0, .int .u64 0] 46 (0, 0))
  e : W.heap[gE]? = some (.cells ce 46 (0, 0))
theorem FrSt.go {w W W' : World} {g gE : Nat} {cx ce : Array Value} (h : FrSt w W g gE cx ce) (hb : Below W.heap.size W W') (hg : g ≤ W.heap.size) : FrSt w W' g gE cx ce :=
  ⟨h.below.trans (hb.mono hg), rowBelow h.x hb (row_lt h.x), rowBelow h.z hb (row_lt h.z), rowBelow h.e hb (row_lt h.e)⟩

set_option maxRecDepth 100000 in
set_option maxHeartbeats 16000000 in
theorem rfrom_any (x : Itm) (v0 : Value) (B : Nat) (w : World) (hB : B ≤ w.heap.size) (h : RdI w B v0 x) :
    Calls Tryz.prog 37 #[v0] w (FromE x w) := by
  obtain ⟨k, n, d, l⟩ := x
  have HX := Lib.hid h
  obtain ⟨Ad, nd, cd, AL, cl, rfl, h1, h2, h3, h4, h5, h7⟩ := h.open
  generalize hN : l.length = N at *
  have HN := Lib.hid hN
  have W2 : Hid (Below w.heap.size w ((w.alloc (.cells #[.int .i64 k, .int .u64 (n : Int), .slice Ad nd cd, .slice AL N cl] 37)).alloc (.cells #[.int .i64 0, .string ⟨#[]⟩, .int .u64 0, .int .u64 0] 46))) := ((Below.refl _ _).alloc (Nat.le_refl _) _).alloc (le_alloc _ _) _
  have HNO : Hid (∀ e w', (∀ e0, checkB e0 = true → itemE e0 ≠ .mk k n d l) → Below w.heap.size w w' → e = .returned (.tuple #[epdV 0 ⟨#[]⟩ 0 0, .int .i64 40]) → FromE (.mk k n d l) w e w') := fun _ _ h1 h2 h3 => ⟨h2, .inr ⟨h1, h3⟩⟩
  have HYES : Hid (∀ e w' sc sm n' v, (sm.size ≤ 140737488355328 ∧ n' < 18446744073709551616 ∧ v < 18446744073709551616 ∧ checkB (ep sc sm n' v) = true ∧ itemE (ep sc sm n' v) = .mk k n d l) → Below w.heap.size w w' → e = .returned (.tuple #[epdV sc sm n' v, .int .i64 0]) → FromE (.mk k n d l) w e w') := fun _ _ sc sm n' v h1 h2 h3 => ⟨h2, .inl ⟨sc, sm, n', v, h3, h1⟩⟩
  clear h hN
  by_cases hN2 : N = 2
  case neg =>
    have t1 : ((N : Int) != 2) = true := by rw [bne_iff_ne]; omega
    have HQ : Hid (∀ e0, checkB e0 = true → itemE e0 ≠ .mk k n d l) := fun e0 _ he => by
      unfold itemE at he
      injection he with _ _ _ hl
      have := HN.out
      rw [← hl] at this
      exact hN2 this.symm
    clear hN2 h1 h2 h3 h4 h5 h7 hB
    go_enter Tryz.func37, Tryz.ntmps37
    go_wp2_with fail
    refine bodyPost_ret (v := .tuple #[epdV 0 ⟨#[]⟩ 0 0, .int .i64 40]) (by simp [results, Tryz.results37, go_sem, epdV]) rfl (HNO.out _ _ HQ.out (by first | exact W2.out | exact below_put4 (W2.out) (by omega)) rfl)
  obtain ⟨xa, xb, rfl⟩ : ∃ xa xb, l = [xa, xb] := by
    have := HN.out
    match l, this with
    | [xa, xb], _ => exact ⟨xa, xb, rfl⟩
    | [], hh => simp at hh; omega
    | [_], hh => simp at hh; omega
    | _ :: _ :: _ :: _, hh => simp at hh; omega
  have t1 : ((N : Int) != 2) = false := by rw [hN2]; rfl
  have i0 : (0 : Int) < (N : Int) := by omega
  have i1 : (1 : Int) < (N : Int) := by omega
  obtain ⟨b, o, rfl, hb, hs⟩ := h7 (by omega)
  obtain ⟨c0, c1, c2, c3, g0, g1, g2, g3, gx⟩ := hs.get 0 (by simp)
  obtain ⟨x0, x1, x2, x3, p0, p1, p2, p3, px⟩ := hs.get 1 (by simp)
  obtain ⟨ka, na, da, la⟩ := xa
  obtain ⟨kb, nb, db, lb⟩ := xb
  obtain ⟨Aa, nda, cda, La, cla, hfa, a1, a2, a3, a4, a5, a7⟩ := gx.open
  obtain ⟨Ab, ndb, cdb, Lb, clb, hfb, b1, b2, b3, b4, b5, b7⟩ := px.open
  injection hfa with hfa
  simp only [Array.mk.injEq, List.cons.injEq, and_true] at hfa
  obtain ⟨rfl, rfl, rfl, rfl⟩ := hfa
  injection hfb with hfb
  simp only [Array.mk.injEq, List.cons.injEq, and_true] at hfb
  obtain ⟨rfl, rfl, rfl, rfl⟩ := hfb
  simp only [Nat.zero_mul, Nat.add_zero, Nat.one_mul] at g0 g1 g2 g3 p0 p1 p2 p3
  have hbw : b < w.heap.size := Nat.lt_of_lt_of_le hb hB
  have PB := Lib.hid (And.intro p0 (And.intro p1 (And.intro p2 p3)))
  have HBW := Lib.hid hbw
  have HB := Lib.hid hB
  have GA := Lib.hid g1
  have HSC : Hid (∀ e0, checkB e0 = true → itemE e0 = .mk k n d [.mk ka na da la, .mk kb nb db lb] → (na : Int) = e0.scheme) := fun e0 hc he => by
    unfold itemE at he
    injection he with _ _ _ hl
    injection hl with ha _
    injection ha with _ hn _ _
    rcases sch_of hc with h | h <;> (rw [h] at hn ⊢; omega)
  have e1 : ((w.alloc (.cells #[.int .i64 k, .int .u64 (n : Int), .slice Ad nd cd, .slice (some ⟨b, o, none⟩) N cl] 37)).alloc (.cells #[.int .i64 0, .string ⟨#[]⟩, .int .u64 0, .int .u64 0] 46)).cell? ⟨b, o + 1, none⟩ = some (.int .u64 (na : Int)) := (W2.out.cell (p := ⟨b, o + 1, none⟩) hbw).trans g1
  clear hs gx px hb g0 g1 g2 g3 p0 p1 p2 p3 h1 h2 h3 h4 h5 h7 hB hbw
  by_cases hlo : na < 1
  · have d1 : decide ((na : Int) < 1) = true := decide_eq_true (by omega)
    have HQ : Hid (∀ e0, checkB e0 = true → itemE e0 ≠ .mk k n d [.mk ka na da la, .mk kb nb db lb]) := fun e0 hc he => by
      have := HSC.out e0 hc he
      rcases sch_of hc with h | h <;> omega
    clear hlo hN2
    go_enter Tryz.func37, Tryz.ntmps37
    go_wp2_with fail
    refine bodyPost_ret (v := .tuple #[epdV 0 ⟨#[]⟩ 0 0, .int .i64 40]) (by simp [results, Tryz.results37, go_sem, epdV]) rfl (HNO.out _ _ HQ.out (by first | exact W2.out | exact below_put4 (W2.out) (by omega)) rfl)
  have d1 : decide ((na : Int) < 1) = false := decide_eq_false (by omega)
  by_cases hhi : 2 < na
  · have d2 : decide ((2 : Int) < (na : Int)) = true := decide_eq_true (by omega)
    have HQ : Hid (∀ e0, checkB e0 = true → itemE e0 ≠ .mk k n d [.mk ka na da la, .mk kb nb db lb]) := fun e0 hc he => by
      have := HSC.out e0 hc he
      rcases sch_of hc with h | h <;> omega
    clear hlo hhi hN2
    go_enter Tryz.func37, Tryz.ntmps37
    go_wp2_with fail
    refine bodyPost_ret (v := .tuple #[epdV 0 ⟨#[]⟩ 0 0, .int .i64 40]) (by simp [results, Tryz.results37, go_sem, epdV]) rfl (HNO.out _ _ HQ.out (by first | exact W2.out | exact below_put4 (W2.out) (by omega)) rfl)
  have d2 : decide ((2 : Int) < (na : Int)) = false := decide_eq_false (by omega)
  have hsc : IntKind.i64.wrap (na : Int) = (na : Int) := by rw [i64eq]; unfold wrap64; omega
  have HW3 : Hid (Below w.heap.size w (((w.alloc (.cells #[.int .i64 k, .int .u64 (n : Int), .slice Ad nd cd, .slice (some ⟨b, o, none⟩) N cl] 37)).alloc (.cells #[.int .i64 0, .string ⟨#[]⟩, .int .u64 0, .int .u64 0] 46)).alloc (.cells #[.int .i64 (na : Int), .string ⟨#[]⟩, .int .u64 0, .int .u64 0] 46))) := W2.out.alloc W2.out.size _
  have HW4 : Hid (Below w.heap.size w ((((w.alloc (.cells #[.int .i64 k, .int .u64 (n : Int), .slice Ad nd cd, .slice (some ⟨b, o, none⟩) N cl] 37)).alloc (.cells #[.int .i64 0, .string ⟨#[]⟩, .int .u64 0, .int .u64 0] 46)).alloc (.cells #[.int .i64 (na : Int), .string ⟨#[]⟩, .int .u64 0, .int .u64 0] 46)).alloc (.cells #[.int .i64 kb, .int .u64 (nb : Int), .slice Ab ndb cdb, .slice Lb lb.length clb] 37))) := HW3.out.alloc HW3.out.size _
  have s2 : ((w.alloc (.cells #[.int .i64 k, .int .u64 (n : Int), .slice Ad nd cd, .slice (some ⟨b, o, none⟩) N cl] 37)).alloc (.cells #[.int .i64 0, .string ⟨#[]⟩, .int .u64 0, .int .u64 0] 46)).heap.size = w.heap.size + 2 := by simp
  have s3 : (((w.alloc (.cells #[.int .i64 k, .int .u64 (n : Int), .slice Ad nd cd, .slice (some ⟨b, o, none⟩) N cl] 37)).alloc (.cells #[.int .i64 0, .string ⟨#[]⟩, .int .u64 0, .int .u64 0] 46)).alloc (.cells #[.int .i64 (na : Int), .string ⟨#[]⟩, .int .u64 0, .int .u64 0] 46)).heap.size = w.heap.size + 3 := by simp
  have ST4 : Hid (FrSt w ((((w.alloc (.cells #[.int .i64 k, .int .u64 (n : Int), .slice Ad nd cd, .slice (some ⟨b, o, none⟩) N cl] 37)).alloc (.cells #[.int .i64 0, .string ⟨#[]⟩, .int .u64 0, .int .u64 0] 46)).alloc (.cells #[.int .i64 (na : Int), .string ⟨#[]⟩, .int .u64 0, .int .u64 0] 46)).alloc (.cells #[.int .i64 kb, .int .u64 (nb : Int), .slice Ab ndb cdb, .slice Lb lb.length clb] 37)) w.heap.size (w.heap.size + 2) #[.int .i64 k, .int .u64 (n : Int), .slice Ad nd cd, .slice (some ⟨b, o, none⟩) N cl] #[.int .i64 (na : Int), .string ⟨#[]⟩, .int .u64 0, .int .u64 0]) :=
    ⟨HW4.out, row_of_box (w := w) rfl ((((Below.refl (w.heap.size + 1) (w.alloc (.cells #[.int .i64 k, .int .u64 (n : Int), .slice Ad nd cd, .slice (some ⟨b, o, none⟩) N cl] 37))).alloc (by simp) _).alloc (by simp) _).alloc (by simp) _),
     row_of_box (w := w.alloc (.cells #[.int .i64 k, .int .u64 (n : Int), .slice Ad nd cd, .slice (some ⟨b, o, none⟩) N cl] 37)) (by simp) (((Below.refl (w.heap.size + 2) ((w.alloc (.cells #[.int .i64 k, .int .u64 (n : Int), .slice Ad nd cd, .slice (some ⟨b, o, none⟩) N cl] 37)).alloc (.cells #[.int .i64 0, .string ⟨#[]⟩, .int .u64 0, .int .u64 0] 46))).alloc (by simp) _).alloc (by simp) _),
     row_of_box (w := ((w.alloc (.cells #[.int .i64 k, .int .u64 (n : Int), .slice Ad nd cd, .slice (some ⟨b, o, none⟩) N cl] 37)).alloc (.cells #[.int .i64 0, .string ⟨#[]⟩, .int .u64 0, .int .u64 0] 46))) s2.symm ((Below.refl (w.heap.size + 3) (((w.alloc (.cells #[.int .i64 k, .int .u64 (n : Int), .slice Ad nd cd, .slice (some ⟨b, o, none⟩) N cl] 37)).alloc (.cells #[.int .i64 0, .string ⟨#[]⟩, .int .u64 0, .int .u64 0] 46)).alloc (.cells #[.int .i64 (na : Int), .string ⟨#[]⟩, .int .u64 0, .int .u64 0] 46))).alloc (by simp) _)⟩
  have RY4 : Hid (((((w.alloc (.cells #[.int .i64 k, .int .u64 (n : Int), .slice Ad nd cd, .slice (some ⟨b, o, none⟩) N cl] 37)).alloc (.cells #[.int .i64 0, .string ⟨#[]⟩, .int .u64 0, .int .u64 0] 46)).alloc (.cells #[.int .i64 (na : Int), .string ⟨#[]⟩, .int .u64 0, .int .u64 0] 46)).alloc (.cells #[.int .i64 kb, .int .u64 (nb : Int), .slice Ab ndb cdb, .slice Lb lb.length clb] 37)).heap[w.heap.size + 3]? = some (.cells #[.int .i64 kb, .int .u64 (nb : Int), .slice Ab ndb cdb, .slice Lb lb.length clb] 37 (0, 0))) := by
    have := heap_alloc_new (((w.alloc (.cells #[.int .i64 k, .int .u64 (n : Int), .slice Ad nd cd, .slice (some ⟨b, o, none⟩) N cl] 37)).alloc (.cells #[.int .i64 0, .string ⟨#[]⟩, .int .u64 0, .int .u64 0] 46)).alloc (.cells #[.int .i64 (na : Int), .string ⟨#[]⟩, .int .u64 0, .int .u64 0] 46)) (.cells #[.int .i64 kb, .int .u64 (nb : Int), .slice Ab ndb cdb, .slice Lb lb.length clb] 37)
    rw [s3] at this
    exact this
  have SZ4 : Hid (((((w.alloc (.cells #[.int .i64 k, .int .u64 (n : Int), .slice Ad nd cd, .slice (some ⟨b, o, none⟩) N cl] 37)).alloc (.cells #[.int .i64 0, .string ⟨#[]⟩, .int .u64 0, .int .u64 0] 46)).alloc (.cells #[.int .i64 (na : Int), .string ⟨#[]⟩, .int .u64 0, .int .u64 0] 46)).alloc (.cells #[.int .i64 kb, .int .u64 (nb : Int), .slice Ab ndb cdb, .slice Lb lb.length clb] 37)).heap.size = w.heap.size + 4) := by show _ = _; simp
  have e2 : ((w.alloc (.cells #[.int .i64 k, .int .u64 (n : Int), .slice Ad nd cd, .slice (some ⟨b, o, none⟩) N cl] 37)).alloc (.cells #[.int .i64 0, .string ⟨#[]⟩, .int .u64 0, .int .u64 0] 46)).cell? ⟨b, o + 1, none⟩ = some (.int .u64 (na : Int)) := e1
  have q0 := (HW3.out.cell (p := ⟨b, o + 4, none⟩) HBW.out).trans PB.out.1
  have q1 := (HW3.out.cell (p := ⟨b, o + 4 + 1, none⟩) HBW.out).trans PB.out.2.1
  have q2 := (HW3.out.cell (p := ⟨b, o + 4 + 2, none⟩) HBW.out).trans PB.out.2.2.1
  have q3 := (HW3.out.cell (p := ⟨b, o + 4 + 3, none⟩) HBW.out).trans PB.out.2.2.2
  clear hlo hhi s2 s3 hN2
  have HFIN : Hid (∀ (W : World) (sm : ByteArray) (nn vv : Nat), FrSt w W w.heap.size (w.heap.size + 2) #[.int .i64 k, .int .u64 (n : Int), .slice Ad nd cd, .slice (some ⟨b, o, none⟩) N cl] #[.int .i64 (na : Int), .string sm, .int .u64 (nn : Int), .int .u64 (vv : Int)] → w.heap.size + 4 ≤ W.heap.size → True) := fun _ _ _ _ _ _ => trivial
  clear HFIN
  have HXR := HX
  have HGO : Hid (∀ (W : World), Below w.heap.size w W → RdI W W.heap.size (.agg #[.int .i64 k, .int .u64 (n : Int), .slice Ad nd cd, .slice (some ⟨b, o, none⟩) N cl]) (.mk k n d [.mk ka na da la, .mk kb nb db lb])) := fun W hb => by
    have := (HX.out.below (hb.mono HB.out)).more (Nat.le_trans HB.out hb.size)
    exact this
  have CS := Lib.hid (fun (W : World) (y : Itm) (v' : Value) (h : RdI W W.heap.size (.agg #[.int .i64 k, .int .u64 (n : Int), .slice Ad nd cd, .slice (some ⟨b, o, none⟩) N cl]) (.mk k n d [.mk ka na da la, .mk kb nb db lb])) (h' : RdI W W.heap.size v' y) => rsameG_n (par y + 1) (.mk k n d [.mk ka na da la, .mk kb nb db lb]) y _ v' W W.heap.size (Nat.lt_succ_self _) (Nat.le_refl _) h h')
  clear HXR HX
  generalize hxx : Itm.mk k n d [.mk ka na da la, .mk kb nb db lb] = XX at *
  have HXX := Lib.hid hxx
  clear hxx
  by_cases hn1 : na = 1
  case pos =>
    have hna : (na : Int) = 1 := by omega
    have s1 : ((na : Int) == 1) = true := by rw [hna]; rfl
    have s2 : ((na : Int) == 2) = false := by rw [hna]; rfl
    have HNA := Lib.hid hna
    clear hna hn1
    go_enter Tryz.func37, Tryz.ntmps37
    go_upto_region 5 with fail
    clear e1 e2 q0 q1 q2 q3 d1 d2 t1 i0 i1
    have HRB := Lib.hid (b4.below (HW4.out.mono HB.out))
    have HSB : Hid ((⟨db.toArray⟩ : ByteArray).size ≤ 140737488355328) := by show _ ≤ _; rw [Lib.size_eq]; have h1 := b4.1; have h2 := b3.2; simp; omega
    have HEQ : Hid (∀ e0, checkB e0 = true → itemE e0 = XX → ep (na : Int) ⟨db.toArray⟩ 0 0 = e0) := fun e0 h1 h2 => by
      have h3 := HSC.out e0 h1 (by rw [h2])
      rw [HNA.out] at h3
      obtain ⟨z1, z2, -⟩ := check_dtn h1 h3.symm
      rw [← HXX.out] at h2
      unfold itemE at h2
      injection h2 with _ _ _ hl
      injection hl with _ hl
      injection hl with hl _
      rw [if_neg (by rw [← h3]; decide)] at hl
      refine epd_ext (by show (na : Int) = _; rw [HNA.out]; exact h3) ?_ (by show 0 = _; exact z1.symm) (by show 0 = _; exact z2.symm)
      show (⟨db.toArray⟩ : ByteArray).data.toList = e0.name
      by_cases hnm : e0.name = []
      · rw [if_pos hnm] at hl
        injection hl with _ _ hd _
        rw [hnm, ← hd]
      · rw [if_neg hnm] at hl
        injection hl with _ _ hd _
        rw [hd]
    clear HW3 HW4 W2
    generalize ((((w.alloc (.cells #[.int .i64 k, .int .u64 (n : Int), .slice Ad nd cd, .slice (some ⟨b, o, none⟩) N cl] 37)).alloc (.cells #[.int .i64 0, .string ⟨#[]⟩, .int .u64 0, .int .u64 0] 46)).alloc (.cells #[.int .i64 (na : Int), .string ⟨#[]⟩, .int .u64 0, .int .u64 0] 46)).alloc (.cells #[.int .i64 kb, .int .u64 (nb : Int), .slice Ab ndb cdb, .slice Lb lb.length clb] 37)) = w4 at *
    have gs := run_str (P := Tryz.prog) (c := cdb) HRB.out 22 5 9 Tryz.underlying22 Tryz.underlying5 Tryz.underlying9
    generalize (⟨db.toArray⟩ : ByteArray) = SM at *
    obtain ⟨y0, y1, y2, y3⟩ := row4_cells ST4.out.e
    have v2 := cell_row RY4.out 2 rfl
    have fe := row_free ST4.out.e 1
    go_upto_region 7 with fail
    have ST5 : Hid (FrSt w (w4.setCell ⟨w.heap.size + 2, 1, none⟩ (.string SM)) w.heap.size (w.heap.size + 2) #[.int .i64 k, .int .u64 (n : Int), .slice Ad nd cd, .slice (some ⟨b, o, none⟩) N cl] #[.int .i64 (na : Int), .string SM, .int .u64 0, .int .u64 0]) :=
      ⟨ST4.out.below.setCell (p := ⟨w.heap.size + 2, 1, none⟩) (by show w.heap.size ≤ w.heap.size + 2; omega) _, (Deep.blk_setCell_other _ _ _ _ (by show w.heap.size ≠ w.heap.size + 2; omega)).trans ST4.out.x, (Deep.blk_setCell_other _ _ _ _ (by show w.heap.size + 1 ≠ w.heap.size + 2; omega)).trans ST4.out.z, set4_1 _ ST4.out.e⟩
    have S5 : Hid (w.heap.size + 4 ≤ (w4.setCell ⟨w.heap.size + 2, 1, none⟩ (.string SM)).heap.size) := by show _ ≤ _; rw [Deep.nblk_setCell, SZ4.out]; exact Nat.le_refl _
    clear y0 y1 y2 y3 v2 fe gs ST4 RY4 SZ4 HRB
    generalize w4.setCell ⟨w.heap.size + 2, 1, none⟩ (.string SM) = w5 at *
    obtain ⟨y0, y1, y2, y3⟩ := row4_cells ST5.out.e
    go_wp2_with fail
    clear y0 y1 y2 y3
    cases hc : checkB (ep (na : Int) SM 0 0) with
    | false =>
      have HQ : Hid (∀ e0, checkB e0 = true → itemE e0 ≠ XX) := fun e0 h1 h2 => by
        have h3 := HEQ.out e0 h1 h2
        rw [← h3, hc] at h1
        cases h1
      refine (ritem_no (na : Int) SM 0 0 w5 HSB.out hc).mono ?_
      rintro e w7 ⟨rfl, hb⟩
      have ST7 := Lib.hid (ST5.out.go hb (by have := S5.out; omega))
      have Z7 : Hid (w.heap.size + 4 ≤ w7.heap.size) := Nat.le_trans S5.out hb.size
      have A7 : Hid (Below w7.heap.size w7 (w7.alloc (.cells #[.int .i64 0, .int .u64 0, .slice none 0 0, .slice none 0 0] 37))) := (Below.refl _ _).alloc (Nat.le_refl _) _
      have ST8 := Lib.hid (ST7.out.go A7.out (by have := Z7.out; omega))
      clear hb hc
      obtain ⟨z0, z1, z2, z3⟩ := row4_cells ST8.out.z
      have f0 := row_free ST8.out.z 0
      have f1 := row_free ST8.out.z 1
      have f2 := row_free ST8.out.z 2
      have f3 := row_free ST8.out.z 3
      unfold zeroItem
      go_wp2_with fail
      refine bodyPost_ret (v := .tuple #[epdV 0 ⟨#[]⟩ 0 0, .int .i64 40]) (by simp [results, Tryz.results37, go_sem, epdV, z0, z1, z2, z3]) rfl (HNO.out _ _ HQ.out (by first | exact ST8.out.below | exact below_put4 (ST8.out.below) (by omega)) rfl)
    | true =>
      refine (ritem_any w5.heap.size (na : Int) SM 0 0 w5 (Nat.le_refl _) HSB.out (by decide) (by decide) hc).mono ?_
      rintro e w7 ⟨u, rfl, hu, hb⟩
      obtain ⟨ku, mu, Du, ndu, cdu, Lu, nlu, clu, rfl⟩ := hu.unmask.form
      have ST7 := Lib.hid (ST5.out.go hb (by have := S5.out; omega))
      have Z7 : Hid (w.heap.size + 4 ≤ w7.heap.size) := Nat.le_trans S5.out hb.size
      have U7 := Lib.hid hu.unmask
      have A7 : Hid (Below w7.heap.size w7 (w7.alloc (.cells #[.int .i64 ku, .int .u64 (mu : Int), .slice Du ndu cdu, .slice Lu nlu clu] 37))) := (Below.refl _ _).alloc (Nat.le_refl _) _
      have ST8 := Lib.hid (ST7.out.go A7.out (by have := Z7.out; omega))
      have U8 := Lib.hid ((U7.out.below A7.out).more A7.out.size)
      have S8 : Hid (w7.heap.size < (w7.alloc (.cells #[.int .i64 ku, .int .u64 (mu : Int), .slice Du ndu cdu, .slice Lu nlu clu] 37)).heap.size) := by show _ < _; simp
      have HC := Lib.hid hc
      clear hb hu hc
      obtain ⟨y0, y1, y2, y3⟩ := row4_cells ST8.out.x
      go_wp2_with fail
      refine (CS.out _ _ _ (HGO.out _ ST8.out.below) U8.out).mono ?_
      rintro e w9 ⟨r, rfl, hr, hb⟩
      have ST9 := Lib.hid (ST8.out.go hb (by have := Z7.out; have := S8.out; omega))
      have HRR := Lib.hid hr
      clear hb hr y0 y1 y2 y3
      obtain ⟨z0, z1, z2, z3⟩ := row4_cells ST9.out.z
      have f0 := row_free ST9.out.z 0
      have f1 := row_free ST9.out.z 1
      have f2 := row_free ST9.out.z 2
      have f3 := row_free ST9.out.z 3
      cases r with
      | true =>
        have HXE := HRR.out.1 rfl
        have HXE2 := Lib.hid HXE
        clear HXE
        obtain ⟨y0, y1, y2, y3⟩ := row4_cells ST9.out.e
        go_wp2_with fail
        refine bodyPost_ret (v := .tuple #[epdV (na : Int) SM 0 0, .int .i64 0]) (by simp [results, Tryz.results37, go_sem, epdV, z0, z1, z2, z3]) rfl (HYES.out _ _ _ _ _ _ ⟨HSB.out, (by decide), (by decide), HC.out, HXE2.out.symm⟩ (by first | exact ST9.out.below | exact below_put4 ST9.out.below (by omega)) rfl)
      | false =>
        have HQ : Hid (∀ e0, checkB e0 = true → itemE e0 ≠ XX) := fun e0 h1 h2 => by
          have h3 := HEQ.out e0 h1 h2
          have h4 : XX = itemE (ep (na : Int) SM 0 0) := by rw [h3, h2]
          have := HRR.out.2 h4
          cases this
        go_wp2_with fail
        refine bodyPost_ret (v := .tuple #[epdV 0 ⟨#[]⟩ 0 0, .int .i64 40]) (by simp [results, Tryz.results37, go_sem, epdV, z0, z1, z2, z3]) rfl (HNO.out _ _ HQ.out (by first | exact ST9.out.below | exact below_put4 (ST9.out.below) (by omega)) rfl)
  have hna : (na : Int) = 2 := by have h1 := hn1; have h2 := d1; have h3 := d2; simp at h2 h3; omega
  have s1 : ((na : Int) == 1) = false := by rw [hna]; rfl
  have s2 : ((na : Int) == 2) = true := by rw [hna]; rfl
  have HNA := Lib.hid hna
  clear hna hn1
  by_cases hl2 : lb.length = 2
  case neg =>
    have t2 : ((lb.length : Int) == 2) = false := by rw [beq_eq_false_iff_ne]; omega
    have HEQ : Hid (∀ e0, checkB e0 = true → itemE e0 = XX → ep (na : Int) ⟨#[]⟩ 0 0 = e0) := fun e0 h1 h2 => by
      have h3 := HSC.out e0 h1 (by rw [h2])
      rw [HNA.out] at h3
      rw [← HXX.out] at h2
      unfold itemE at h2
      injection h2 with _ _ _ hl
      injection hl with _ hl
      injection hl with hl _
      rw [if_pos h3.symm] at hl
      injection hl with _ _ _ hl
      exact absurd (by rw [← hl]; rfl) hl2
    go_enter Tryz.func37, Tryz.ntmps37
    go_upto_region 5 with fail
    clear e1 e2 q0 q1 q2 q3 d1 d2 t1 i0 i1 HW3 HW4 W2 hl2
    generalize lb.length = LB at *
    generalize ((((w.alloc (.cells #[.int .i64 k, .int .u64 (n : Int), .slice Ad nd cd, .slice (some ⟨b, o, none⟩) N cl] 37)).alloc (.cells #[.int .i64 0, .string ⟨#[]⟩, .int .u64 0, .int .u64 0] 46)).alloc (.cells #[.int .i64 (na : Int), .string ⟨#[]⟩, .int .u64 0, .int .u64 0] 46)).alloc (.cells #[.int .i64 kb, .int .u64 (nb : Int), .slice Ab ndb cdb, .slice Lb LB clb] 37)) = w4 at *
    obtain ⟨y0, y1, y2, y3⟩ := row4_cells ST4.out.e
    have v3 := cell_row RY4.out 3 rfl
    go_wp2_with fail
    clear y0 y1 y2 y3 v3
    have S4 : Hid (w.heap.size + 4 ≤ w4.heap.size) := Nat.le_of_eq SZ4.out.symm
    cases hc : checkB (ep (na : Int) ⟨#[]⟩ 0 0) with
    | false =>
      have HQ : Hid (∀ e0, checkB e0 = true → itemE e0 ≠ XX) := fun e0 h1 h2 => by
        have h3 := HEQ.out e0 h1 h2
        rw [← h3, hc] at h1
        cases h1
      refine (ritem_no (na : Int) ⟨#[]⟩ 0 0 w4 (by decide) hc).mono ?_
      rintro e w7 ⟨rfl, hb⟩
      have ST7 := Lib.hid (ST4.out.go hb (by have := S4.out; omega))
      have Z7 : Hid (w.heap.size + 4 ≤ w7.heap.size) := Nat.le_trans S4.out hb.size
      have A7 : Hid (Below w7.heap.size w7 (w7.alloc (.cells #[.int .i64 0, .int .u64 0, .slice none 0 0, .slice none 0 0] 37))) := (Below.refl _ _).alloc (Nat.le_refl _) _
      have ST8 := Lib.hid (ST7.out.go A7.out (by have := Z7.out; omega))
      clear hb hc
      obtain ⟨z0, z1, z2, z3⟩ := row4_cells ST8.out.z
      have f0 := row_free ST8.out.z 0
      have f1 := row_free ST8.out.z 1
      have f2 := row_free ST8.out.z 2
      have f3 := row_free ST8.out.z 3
      unfold zeroItem
      go_wp2_with fail
      refine bodyPost_ret (v := .tuple #[epdV 0 ⟨#[]⟩ 0 0, .int .i64 40]) (by simp [results, Tryz.results37, go_sem, epdV, z0, z1, z2, z3]) rfl (HNO.out _ _ HQ.out (by first | exact ST8.out.below | exact below_put4 (ST8.out.below) (by omega)) rfl)
    | true =>
      refine (ritem_any w4.heap.size (na : Int) ⟨#[]⟩ 0 0 w4 (Nat.le_refl _) (by decide) (by decide) (by decide) hc).mono ?_
      rintro e w7 ⟨u, rfl, hu, hb⟩
      obtain ⟨ku, mu, Du, ndu, cdu, Lu, nlu, clu, rfl⟩ := hu.unmask.form
      have ST7 := Lib.hid (ST4.out.go hb (by have := S4.out; omega))
      have Z7 : Hid (w.heap.size + 4 ≤ w7.heap.size) := Nat.le_trans S4.out hb.size
      have U7 := Lib.hid hu.unmask
      have A7 : Hid (Below w7.heap.size w7 (w7.alloc (.cells #[.int .i64 ku, .int .u64 (mu : Int), .slice Du ndu cdu, .slice Lu nlu clu] 37))) := (Below.refl _ _).alloc (Nat.le_refl _) _
      have ST8 := Lib.hid (ST7.out.go A7.out (by have := Z7.out; omega))
      have U8 := Lib.hid ((U7.out.below A7.out).more A7.out.size)
      have S8 : Hid (w7.heap.size < (w7.alloc (.cells #[.int .i64 ku, .int .u64 (mu : Int), .slice Du ndu cdu, .slice Lu nlu clu] 37)).heap.size) := by show _ < _; simp
      have HC := Lib.hid hc
      clear hb hu hc
      obtain ⟨y0, y1, y2, y3⟩ := row4_cells ST8.out.x
      go_wp2_with fail
      refine (CS.out _ _ _ (HGO.out _ ST8.out.below) U8.out).mono ?_
      rintro e w9 ⟨r, rfl, hr, hb⟩
      have ST9 := Lib.hid (ST8.out.go hb (by have := Z7.out; have := S8.out; omega))
      have HRR := Lib.hid hr
      clear hb hr y0 y1 y2 y3
      obtain ⟨z0, z1, z2, z3⟩ := row4_cells ST9.out.z
      have f0 := row_free ST9.out.z 0
      have f1 := row_free ST9.out.z 1
      have f2 := row_free ST9.out.z 2
      have f3 := row_free ST9.out.z 3
      cases r with
      | true =>
        have HXE := HRR.out.1 rfl
        have HXE2 := Lib.hid HXE
        clear HXE
        obtain ⟨y0, y1, y2, y3⟩ := row4_cells ST9.out.e
        go_wp2_with fail
        refine bodyPost_ret (v := .tuple #[epdV (na : Int) ⟨#[]⟩ 0 0, .int .i64 0]) (by simp [results, Tryz.results37, go_sem, epdV, z0, z1, z2, z3]) rfl (HYES.out _ _ _ _ _ _ ⟨(by decide), (by decide), (by decide), HC.out, HXE2.out.symm⟩ (by first | exact ST9.out.below | exact below_put4 ST9.out.below (by omega)) rfl)
      | false =>
        have HQ : Hid (∀ e0, checkB e0 = true → itemE e0 ≠ XX) := fun e0 h1 h2 => by
          have h3 := HEQ.out e0 h1 h2
          have h4 : XX = itemE (ep (na : Int) ⟨#[]⟩ 0 0) := by rw [h3, h2]
          have := HRR.out.2 h4
          cases this
        go_wp2_with fail
        refine bodyPost_ret (v := .tuple #[epdV 0 ⟨#[]⟩ 0 0, .int .i64 40]) (by simp [results, Tryz.results37, go_sem, epdV, z0, z1, z2, z3]) rfl (HNO.out _ _ HQ.out (by first | exact ST9.out.below | exact below_put4 (ST9.out.below) (by omega)) rfl)
  obtain ⟨b2, o2, rfl, hb2, hs2⟩ := b7 (by omega)
  obtain ⟨xc, xd, hlb⟩ : ∃ xc xd, lb = [xc, xd] := by
    match lb, hl2 with
    | [xc, xd], _ => exact ⟨xc, xd, rfl⟩
  rw [hlb] at hs2
  obtain ⟨c0, c1, c2, c3, -, g1, -, -, gx⟩ := hs2.get 0 (by simp)
  obtain ⟨x0, x1, x2, x3, -, p1, -, -, px⟩ := hs2.get 1 (by simp)
  obtain ⟨kc, nc, dc, lc⟩ := xc
  obtain ⟨ke, ne, de, le⟩ := xd
  obtain ⟨Ac, ndc, cdc, Lc, clc, hfa, -, hc2, -⟩ := gx.open
  obtain ⟨Ae, nde, cde, Le, cle, hfb, -, he2, -⟩ := px.open
  injection hfa with hfa
  simp only [Array.mk.injEq, List.cons.injEq, and_true] at hfa
  obtain ⟨rfl, rfl, rfl, rfl⟩ := hfa
  injection hfb with hfb
  simp only [Array.mk.injEq, List.cons.injEq, and_true] at hfb
  obtain ⟨rfl, rfl, rfl, rfl⟩ := hfb
  simp only [Nat.zero_mul, Nat.add_zero, Nat.one_mul] at g1 p1
  have hb2w : b2 < w.heap.size := Nat.lt_of_lt_of_le hb2 HB.out
  have t2 : ((lb.length : Int) == 2) = true := by rw [beq_iff_eq]; omega
  have j0 : (0 : Int) < (lb.length : Int) := by omega
  have j1 : (1 : Int) < (lb.length : Int) := by omega
  have HEQ : Hid (∀ e0, checkB e0 = true → itemE e0 = XX → ep (na : Int) ⟨#[]⟩ nc ne = e0) := fun e0 h1 h2 => by
    have h3 := HSC.out e0 h1 (by rw [h2])
    rw [HNA.out] at h3
    rw [← HXX.out] at h2
    unfold itemE at h2
    injection h2 with _ _ _ hl
    injection hl with _ hl
    injection hl with hl _
    rw [if_pos h3.symm] at hl
    injection hl with _ _ _ hl
    rw [hlb] at hl
    injection hl with m1 m2
    injection m2 with m2 _
    injection m1 with _ m1 _ _
    injection m2 with _ m2 _ _
    obtain ⟨-, hnm, -⟩ := check_ipn h1 (by rw [← h3]; decide)
    exact epd_ext (by show (na : Int) = _; rw [HNA.out]; exact h3) hnm.symm (by show nc = _; exact m1.symm) (by show ne = _; exact m2.symm)
  have m1 := (HW4.out.cell (p := ⟨b2, o2 + 1, none⟩) hb2w).trans g1
  have m2 := (HW4.out.cell (p := ⟨b2, o2 + 4 + 1, none⟩) hb2w).trans p1
  have n1 : ¬ w.heap.size + 2 = b2 := by omega
  clear gx px hs2 hlb hb2 g1 p1 hb2w hl2
  go_enter Tryz.func37, Tryz.ntmps37
  go_upto_region 5 with fail
  clear e1 e2 q0 q1 q2 q3 d1 d2 t1 i0 i1 HW3 HW4 W2
  generalize lb.length = LB at *
  generalize ((((w.alloc (.cells #[.int .i64 k, .int .u64 (n : Int), .slice Ad nd cd, .slice (some ⟨b, o, none⟩) N cl] 37)).alloc (.cells #[.int .i64 0, .string ⟨#[]⟩, .int .u64 0, .int .u64 0] 46)).alloc (.cells #[.int .i64 (na : Int), .string ⟨#[]⟩, .int .u64 0, .int .u64 0] 46)).alloc (.cells #[.int .i64 kb, .int .u64 (nb : Int), .slice Ab ndb cdb, .slice (some ⟨b2, o2, none⟩) LB clb] 37)) = w4 at *
  obtain ⟨y0, y1, y2, y3⟩ := row4_cells ST4.out.e
  have v3 := cell_row RY4.out 3 rfl
  have fe2 := row_free ST4.out.e 2
  have fe3 := row_free ST4.out.e 3
  go_upto_region 10 with fail
  have ST6 : Hid (FrSt w ((w4.setCell ⟨w.heap.size + 2, 2, none⟩ (.int .u64 (nc : Int))).setCell ⟨w.heap.size + 2, 3, none⟩ (.int .u64 (ne : Int))) w.heap.size (w.heap.size + 2) #[.int .i64 k, .int .u64 (n : Int), .slice Ad nd cd, .slice (some ⟨b, o, none⟩) N cl] #[.int .i64 (na : Int), .string ⟨#[]⟩, .int .u64 (nc : Int), .int .u64 (ne : Int)]) :=
    ⟨(ST4.out.below.setCell (p := ⟨w.heap.size + 2, 2, none⟩) (by show w.heap.size ≤ w.heap.size + 2; omega) _).setCell (p := ⟨w.heap.size + 2, 3, none⟩) (by show w.heap.size ≤ w.heap.size + 2; omega) _,
     ((Deep.blk_setCell_other _ _ _ _ (by show w.heap.size ≠ w.heap.size + 2; omega)).trans (Deep.blk_setCell_other _ _ _ _ (by show w.heap.size ≠ w.heap.size + 2; omega))).trans ST4.out.x,
     ((Deep.blk_setCell_other _ _ _ _ (by show w.heap.size + 1 ≠ w.heap.size + 2; omega)).trans (Deep.blk_setCell_other _ _ _ _ (by show w.heap.size + 1 ≠ w.heap.size + 2; omega))).trans ST4.out.z,
     set4_3 _ (set4_2 _ ST4.out.e)⟩
  have S6 : Hid (w.heap.size + 4 ≤ ((w4.setCell ⟨w.heap.size + 2, 2, none⟩ (.int .u64 (nc : Int))).setCell ⟨w.heap.size + 2, 3, none⟩ (.int .u64 (ne : Int))).heap.size) := by show _ ≤ _; rw [Deep.nblk_setCell, Deep.nblk_setCell, SZ4.out]; exact Nat.le_refl _
  clear y0 y1 y2 y3 v3 fe2 fe3 ST4 RY4 SZ4 m1 m2 n1
  generalize (w4.setCell ⟨w.heap.size + 2, 2, none⟩ (.int .u64 (nc : Int))).setCell ⟨w.heap.size + 2, 3, none⟩ (.int .u64 (ne : Int)) = w6 at *
  obtain ⟨y0, y1, y2, y3⟩ := row4_cells ST6.out.e
  go_wp2_with fail
  clear y0 y1 y2 y3
  cases hc : checkB (ep (na : Int) ⟨#[]⟩ nc ne) with
  | false =>
    have HQ : Hid (∀ e0, checkB e0 = true → itemE e0 ≠ XX) := fun e0 h1 h2 => by
      have h3 := HEQ.out e0 h1 h2
      rw [← h3, hc] at h1
      cases h1
    refine (ritem_no (na : Int) ⟨#[]⟩ nc ne w6 (by decide) hc).mono ?_
    rintro e w7 ⟨rfl, hb⟩
    have ST7 := Lib.hid (ST6.out.go hb (by have := S6.out; omega))
    have Z7 : Hid (w.heap.size + 4 ≤ w7.heap.size) := Nat.le_trans S6.out hb.size
    have A7 : Hid (Below w7.heap.size w7 (w7.alloc (.cells #[.int .i64 0, .int .u64 0, .slice none 0 0, .slice none 0 0] 37))) := (Below.refl _ _).alloc (Nat.le_refl _) _
    have ST8 := Lib.hid (ST7.out.go A7.out (by have := Z7.out; omega))
    clear hb hc
    obtain ⟨z0, z1, z2, z3⟩ := row4_cells ST8.out.z
    have f0 := row_free ST8.out.z 0
    have f1 := row_free ST8.out.z 1
    have f2 := row_free ST8.out.z 2
    have f3 := row_free ST8.out.z 3
    unfold zeroItem
    go_wp2_with fail
    refine bodyPost_ret (v := .tuple #[epdV 0 ⟨#[]⟩ 0 0, .int .i64 40]) (by simp [results, Tryz.results37, go_sem, epdV, z0, z1, z2, z3]) rfl (HNO.out _ _ HQ.out (by first | exact ST8.out.below | exact below_put4 (ST8.out.below) (by omega)) rfl)
  | true =>
    refine (ritem_any w6.heap.size (na : Int) ⟨#[]⟩ nc ne w6 (Nat.le_refl _) (by decide) hc2 he2 hc).mono ?_
    rintro e w7 ⟨u, rfl, hu, hb⟩
    obtain ⟨ku, mu, Du, ndu, cdu, Lu, nlu, clu, rfl⟩ := hu.unmask.form
    have ST7 := Lib.hid (ST6.out.go hb (by have := S6.out; omega))
    have Z7 : Hid (w.heap.size + 4 ≤ w7.heap.size) := Nat.le_trans S6.out hb.size
    have U7 := Lib.hid hu.unmask
    have A7 : Hid (Below w7.heap.size w7 (w7.alloc (.cells #[.int .i64 ku, .int .u64 (mu : Int), .slice Du ndu cdu, .slice Lu nlu clu] 37))) := (Below.refl _ _).alloc (Nat.le_refl _) _
    have ST8 := Lib.hid (ST7.out.go A7.out (by have := Z7.out; omega))
    have U8 := Lib.hid ((U7.out.below A7.out).more A7.out.size)
    have S8 : Hid (w7.heap.size < (w7.alloc (.cells #[.int .i64 ku, .int .u64 (mu : Int), .slice Du ndu cdu, .slice Lu nlu clu] 37)).heap.size) := by show _ < _; simp
    have HC := Lib.hid hc
    clear hb hu hc
    obtain ⟨y0, y1, y2, y3⟩ := row4_cells ST8.out.x
    go_wp2_with fail
    refine (CS.out _ _ _ (HGO.out _ ST8.out.below) U8.out).mono ?_
    rintro e w9 ⟨r, rfl, hr, hb⟩
    have ST9 := Lib.hid (ST8.out.go hb (by have := Z7.out; have := S8.out; omega))
    have HRR := Lib.hid hr
    clear hb hr y0 y1 y2 y3
    obtain ⟨z0, z1, z2, z3⟩ := row4_cells ST9.out.z
    have f0 := row_free ST9.out.z 0
    have f1 := row_free ST9.out.z 1
    have f2 := row_free ST9.out.z 2
    have f3 := row_free ST9.out.z 3
    cases r with
    | true =>
      have HXE := HRR.out.1 rfl
      have HXE2 := Lib.hid HXE
      clear HXE
      obtain ⟨y0, y1, y2, y3⟩ := row4_cells ST9.out.e
      go_wp2_with fail
      refine bodyPost_ret (v := .tuple #[epdV (na : Int) ⟨#[]⟩ nc ne, .int .i64 0]) (by simp [results, Tryz.results37, go_sem, epdV, z0, z1, z2, z3]) rfl (HYES.out _ _ _ _ _ _ ⟨(by decide), hc2, he2, HC.out, HXE2.out.symm⟩ (by first | exact ST9.out.below | exact below_put4 ST9.out.below (by omega)) rfl)
    | false =>
      have HQ : Hid (∀ e0, checkB e0 = true → itemE e0 ≠ XX) := fun e0 h1 h2 => by
        have h3 := HEQ.out e0 h1 h2
        have h4 : XX = itemE (ep (na : Int) ⟨#[]⟩ nc ne) := by rw [h3, h2]
        have := HRR.out.2 h4
        cases this
      go_wp2_with fail
      refine bodyPost_ret (v := .tuple #[epdV 0 ⟨#[]⟩ 0 0, .int .i64 40]) (by simp [results, Tryz.results37, go_sem, epdV, z0, z1, z2, z3]) rfl (HNO.out _ _ HQ.out (by first | exact ST9.out.below | exact below_put4 (ST9.out.below) (by omega)) rfl)
end Go.Proofs.YtanbjifdcplmnaaGreatDoor
