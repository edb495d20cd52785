/- What parsed of layer 4 returns. -/
import Derived.Test.YtlncacfflalacaaDoorEidT2
import Derived.Deep.RegionHeld3
namespace Go.Proofs.YtlncacfflalacaaDoor
open Go.RowKit

/-- The endpoint whose text this is, or why there is none. -/
def Pars (A : Snt) (l : List UInt8) (w : World) (e : Ending) (w' : World) : Prop := Below w.heap.size w w' ∧
  ((∃ (sc : Int) (s : ByteArray) (n v : Nat), e = .returned (.tuple #[epdV sc s n v, .nilIface]) ∧ s.size ≤ l.length ∧ n < 18446744073709551616 ∧ v < 18446744073709551616 ∧ checkB (ep sc s n v) = true ∧ textE (ep sc s n v) = l) ∨
   ((∀ e0, checkB e0 = true → textE e0 ≠ l) ∧ ∃ a s, OneOf A a ∧ e = .returned (.tuple #[epdV 0 ⟨#[]⟩ 0 0, .iface 56 (.agg #[.string s, snt a])])))

set_option maxRecDepth 100000 in
set_option maxHeartbeats 1000000 in
theorem parsed_any (A : Snt) (s : ByteArray) (w : World) (hA : Lds A w) (hs : s.size ≤ 140737488355328) :
    Calls Tryd.prog 17 #[.string s] w (Pars A s.data.toList w) := by
  have HA1 := Lib.hid (hA.alloc (.cells #[.int .i64 0, .string ⟨#[]⟩, .int .u64 0, .int .u64 0] 25))
  have C1 := Lib.hid (spelt_any A s _ HA1.out hs)
  have HB0 : Hid (Below w.heap.size w (w.alloc (.cells #[.int .i64 0, .string ⟨#[]⟩, .int .u64 0, .int .u64 0] 25))) := (Below.refl _ _).alloc (Nat.le_refl _) _
  have q1 := fun (W : World) (u : TypeId) (x : Value) => run_neq_iface_nil (P := Tryd.prog) (w := W) 46 (by kernel_rfl) u x
  have q2 := fun (W : World) (u : TypeId) (x : Value) => run_eql_iface_nil (P := Tryd.prog) (w := W) 46 (by kernel_rfl) u x
  have hsl := Lib.size_eq s
  obtain ⟨L, hL⟩ : ∃ L, L = s.data.toList := ⟨_, rfl⟩
  have hsT : s.toList = L := by rw [hL, Lib.toList_data]
  rw [← hL] at hsl C1 ⊢
  have HSL := Lib.hid hsl
  have HS := Lib.hid hs
  clear hA hL hsl hs
  go_enter Tryd.func17, Tryd.ntmps17
  go_wp2_with fail
  refine C1.out.mono ?_
  rintro e w1 ⟨hb, hcase⟩
  have HL1 := Lib.hid (HA1.out.below hb (Nat.le_refl _))
  have HB1 := Lib.hid (hb.mono (show w.heap.size + 1 ≤ _ by simp))
  have HZ1 : Hid (w.heap.size + 1 ≤ w1.heap.size) := by show _ ≤ _; have h := hb.size; simpa using h
  clear hb
  obtain ⟨sc, x, n, v, rfl, h1, h2, h3, h4, h5⟩ | ⟨a, ha, rfl, h5⟩ := hcase
  · have H := Lib.hid (And.intro h2 (And.intro h3 (And.intro h4 h5)))
    have hx : x.size ≤ 140737488355328 := by have := HSL.out; have := HS.out; omega
    have hA2 := HL1.out.alloc (.cells #[.int .i64 sc, .string x, .int .u64 (n : Int), .int .u64 (v : Int)] 25)
    have C2 := Lib.hid (check_any A sc x n v _ hA2 hx)
    have C3 := Lib.hid (fun W (hW : Lds A W) => text_any A sc x n v W hW hx h3 h4)
    have HA2 := Lib.hid hA2
    clear h1 h2 h3 h4 h5 hx hA2
    unfold epdV at *
    go_wp2_with fail
    refine C2.out.mono ?_
    rintro e w2 ⟨hb, hcase⟩
    have HL2 := Lib.hid (HA2.out.below hb (Nat.le_refl _))
    have hbx := box_cells4 hb
    have HB2 := Lib.hid (HB1.out.trans (((Below.refl w1.heap.size w1).alloc (Nat.le_refl _) (.cells #[.int .i64 sc, .string x, .int .u64 (n : Int), .int .u64 (v : Int)] 25)).mono HZ1.out |>.trans (hb.mono (Nat.le_trans HZ1.out (le_alloc _ _)))))
    have HBB := Lib.hid hb
    clear hb
    obtain ⟨⟨z0, z1, z2, z3⟩, f0, f1, f2, f3⟩ := zeroE (g := w.heap.size) rfl HB2.out
    obtain ⟨p0, p1, p2, p3⟩ := hbx
    obtain ⟨hck, rfl⟩ | ⟨hck, a, ha, rfl⟩ := hcase
    · -- it may be
      have HCK := Lib.hid hck
      clear hck z0 z1 z2 z3 f0 f1 f2 f3
      go_wp2_with fail
      refine (C3.out _ HL2.out).mono ?_
      rintro e w3 ⟨rfl, hb⟩
      have HB3 := Lib.hid (HB2.out.trans (hb.mono (Nat.le_trans (Nat.le_trans HZ1.out (le_alloc _ _)) HBB.out.size)))
      have HL3 := Lib.hid (HL2.out.below hb (Nat.le_refl _))
      have hbx := box_cells4 (HBB.out.trans (hb.mono HBB.out.size))
      clear hb p0 p1 p2 p3
      obtain ⟨⟨z0, z1, z2, z3⟩, f0, f1, f2, f3⟩ := zeroE (g := w.heap.size) rfl HB3.out
      obtain ⟨p0, p1, p2, p3⟩ := hbx
      have gf := HL3.out.cf
      unfold snt at gf
      have hTT : (strL (textE (ep sc x n v))).toList = textE (ep sc x n v) := by rw [Lib.toList_data, strL_list]
      by_cases hte : textE (ep sc x n v) = L
      · have HTE := Lib.hid hte
        have e1 : ((strL (textE (ep sc x n v))).toList == s.toList) = true := by rw [hTT, hsT, hte]; simp
        have e2 : strL (textE (ep sc x n v)) = s := by rw [hte, ← hsT, Lib.toList_data, strL_data]
        clear hte gf hTT e1
        rw [e2]
        clear e2
        go_wp2_with fail
        refine bodyPost_ret (v := .tuple #[epdV sc x n v, .nilIface]) (by simp [results, Tryd.results17, go_sem, z0, z1, z2, z3, epdV]) rfl ⟨below_put4 (HB0.out.trans (HB3.out.mono (Nat.le_succ _))) (Nat.le_refl _), .inl ⟨sc, x, n, v, rfl, H.out.1, H.out.2.1, H.out.2.2.1, HCK.out, HTE.out⟩⟩
      · have e1 : ((strL (textE (ep sc x n v))).toList == L) = false := by rw [hTT]; exact beq_eq_false_iff_ne.2 hte
        have HNO : Hid (∀ e0, checkB e0 = true → textE e0 ≠ L) := fun e0 hc0 ht0 => by
          have h := H.out.2.2.2 e0 hc0 ht0
          injection h with h
          rw [← h] at ht0
          exact hte ht0
        clear hte hTT
        generalize strL (textE (ep sc x n v)) = T at *
        go_wp2_with fail
        refine bodyPost_ret (v := .tuple #[epdV 0 ⟨#[]⟩ 0 0, .iface 56 (.agg #[.string ⟨#[116, 101, 120, 116]⟩, snt A.f])]) (by simp [results, Tryd.results17, go_sem, z0, z1, z2, z3, epdV, snt]) rfl ⟨below_put4 (HB0.out.trans (HB3.out.mono (Nat.le_succ _))) (Nat.le_refl _), .inr ⟨HNO.out, A.f, _, .inr (.inr (.inr rfl)), rfl⟩⟩
    · have HO := Lib.hid ha
      have HNO : Hid (∀ e0, checkB e0 = true → textE e0 ≠ L) := fun e0 hc0 ht0 => by
        have h := H.out.2.2.2 e0 hc0 ht0
        injection h with h
        rw [← h, hck] at hc0
        cases hc0
      clear hck ha p0 p1 p2 p3
      unfold snt at *
      go_wp2_with fail
      refine bodyPost_ret (v := .tuple #[epdV 0 ⟨#[]⟩ 0 0, .iface 56 (.agg #[.string ⟨#[116, 101, 120, 116]⟩, snt a])]) (by simp [results, Tryd.results17, go_sem, z0, z1, z2, z3, epdV, snt]) rfl ⟨below_put4 (HB0.out.trans (HB2.out.mono (Nat.le_succ _))) (Nat.le_refl _), .inr ⟨HNO.out, a, _, HO.out, rfl⟩⟩
  · have HO := Lib.hid ha
    have HNO : Hid (∀ e0, checkB e0 = true → textE e0 ≠ L) := fun e0 hc0 ht0 => by
      have h := h5 e0 hc0 ht0
      cases h
    clear ha h5
    have HB2 := Lib.hid (HB1.out.trans (((Below.refl w1.heap.size w1).alloc (Nat.le_refl _) (.cells #[.int .i64 0, .string ⟨#[]⟩, .int .u64 0, .int .u64 0] 25)).mono HZ1.out))
    obtain ⟨⟨z0, z1, z2, z3⟩, f0, f1, f2, f3⟩ := zeroE (g := w.heap.size) rfl HB2.out
    unfold epdV snt at *
    go_wp2_with fail
    refine bodyPost_ret (v := .tuple #[epdV 0 ⟨#[]⟩ 0 0, .iface 56 (.agg #[.string ⟨#[116, 101, 120, 116]⟩, snt a])]) (by simp [results, Tryd.results17, go_sem, z0, z1, z2, z3, epdV, snt]) rfl ⟨below_put4 (HB0.out.trans (HB2.out.mono (Nat.le_succ _))) (Nat.le_refl _), .inr ⟨HNO.out, a, _, HO.out, rfl⟩⟩

/-- The endpoint whose text this is, or 40. -/
def ParsE (l : List UInt8) (w : World) (e : Ending) (w' : World) : Prop := Below w.heap.size w w' ∧
  ((∃ (sc : Int) (s : ByteArray) (n v : Nat), e = .returned (.tuple #[epdV sc s n v, .int .i64 0]) ∧ s.size ≤ l.length ∧ n < 18446744073709551616 ∧ v < 18446744073709551616 ∧ checkB (ep sc s n v) = true ∧ textE (ep sc s n v) = l) ∨
   ((∀ e0, checkB e0 = true → textE e0 ≠ l) ∧ e = .returned (.tuple #[epdV 0 ⟨#[]⟩ 0 0, .int .i64 40])))

set_option maxRecDepth 100000 in
set_option maxHeartbeats 1000000 in
theorem parse_any (A : Snt) (s : ByteArray) (w : World) (hA : Lds A w) (hs : s.size ≤ 140737488355328) :
    Calls Tryd.prog 10 #[.string s] w (ParsE s.data.toList w) := by
  have HA1 := Lib.hid (hA.alloc (.cells #[.int .i64 0, .string ⟨#[]⟩, .int .u64 0, .int .u64 0] 25))
  have C1 := Lib.hid (parsed_any A s _ HA1.out hs)
  have HB0 : Hid (Below w.heap.size w (w.alloc (.cells #[.int .i64 0, .string ⟨#[]⟩, .int .u64 0, .int .u64 0] 25))) := (Below.refl _ _).alloc (Nat.le_refl _) _
  generalize s.data.toList = L at *
  clear hA hs
  go_enter Tryd.func10, Tryd.ntmps10
  go_wp2_with fail
  refine C1.out.mono ?_
  rintro e w1 ⟨hb, hcase⟩
  have HL1 := Lib.hid (HA1.out.below hb (Nat.le_refl _))
  have HB1 := Lib.hid (hb.mono (show w.heap.size + 1 ≤ _ by simp))
  have HZ1 : Hid (w.heap.size + 1 ≤ w1.heap.size) := by show _ ≤ _; have h := hb.size; simpa using h
  have HNE : Hid (¬ w.heap.size = w1.heap.size) := fun h => by have := HZ1.out; omega
  clear hb
  obtain ⟨sc, x, n, v, rfl, h2, h3, h4, h5, h6⟩ | ⟨h5, a, tx, ha, rfl⟩ := hcase
  · have H := Lib.hid (And.intro h2 (And.intro h3 (And.intro h4 (And.intro h5 h6))))
    have CN := Lib.hid (fun W (hW : Lds A W) => number_nilB A W hW)
    clear h2 h3 h4 h5 h6
    unfold epdV at *
    go_wp2_with fail
    have HA2 := Lib.hid (HL1.out.alloc (.cells #[.int .i64 sc, .string x, .int .u64 (n : Int), .int .u64 (v : Int)] 25))
    have HB2 := Lib.hid (HB1.out.trans (((Below.refl w1.heap.size w1).alloc (Nat.le_refl _) (.cells #[.int .i64 sc, .string x, .int .u64 (n : Int), .int .u64 (v : Int)] 25)).mono HZ1.out))
    have HLT : Hid (w1.heap.size < (w1.alloc (.cells #[.int .i64 sc, .string x, .int .u64 (n : Int), .int .u64 (v : Int)] 25)).heap.size) := by show _ < _; simp
    obtain ⟨p0, p1, p2, p3⟩ := box_cells4 (Below.refl _ (w1.alloc (.cells #[.int .i64 sc, .string x, .int .u64 (n : Int), .int .u64 (v : Int)] 25)))
    generalize w1.alloc (.cells #[.int .i64 sc, .string x, .int .u64 (n : Int), .int .u64 (v : Int)] 25) = W1 at *
    have HD := Lib.hid (HA2.out.below (Below.drew_ (B := W1.heap.size)) (Nat.le_refl _))
    have HZ2 := Lib.hid (Nat.le_trans HZ1.out (Nat.le_of_lt HLT.out))
    go_region_held3 (fun W => W.cell? ⟨w1.heap.size, 0, none⟩ = some (.int .i64 sc) ∧ W.cell? ⟨w1.heap.size, 1, none⟩ = some (.string x) ∧ W.cell? ⟨w1.heap.size, 2, none⟩ = some (.int .u64 (n : Int)) ∧ W.cell? ⟨w1.heap.size, 3, none⟩ = some (.int .u64 (v : Int)))
      (first | (with_reducible exact ⟨put4_cell_ x0 HNE.out, put4_cell_ x1 HNE.out, put4_cell_ x2 HNE.out, put4_cell_ x3 HNE.out⟩) | (with_reducible exact ⟨x0, x1, x2, x3⟩) | (exact ⟨p0, p1, p2, p3⟩) | fail)
      (first
        | (go_at_call 18; refine (CN.out _ HD.out).mono ?_; rintro e w2 ⟨rfl, hb2⟩; have hb2' : Below W1.heap.size W1 w2 := Below.drew_.trans hb2; have x0 := (hb2'.cell (p := ⟨w1.heap.size, 0, none⟩) HLT.out).trans p0; have x1 := (hb2'.cell (p := ⟨w1.heap.size, 1, none⟩) HLT.out).trans p1; have x2 := (hb2'.cell (p := ⟨w1.heap.size, 2, none⟩) HLT.out).trans p2; have x3 := (hb2'.cell (p := ⟨w1.heap.size, 3, none⟩) HLT.out).trans p3; have hb3 := HB2.out.trans (hb2'.mono HZ2.out); have BX := Lib.hid hb2'; obtain ⟨⟨z0, z1, z2, z3⟩, f0, f1, f2, f3⟩ := zeroE (g := w.heap.size) rfl hb3; have B3 := Lib.hid hb3; clear hb2 hb2' hb3)
        | fail)
    go_wp2_with fail
    refine bodyPost_ret (v := .tuple #[epdV sc x n v, .int .i64 0]) (by simp [results, Tryd.results10, go_sem, z0, z1, z2, z3, epdV]) rfl ⟨below_put4 (HB0.out.trans (B3.out.mono (Nat.le_succ _))) (Nat.le_refl _), .inl ⟨sc, x, n, v, rfl, H.out.1, H.out.2.1, H.out.2.2.1, H.out.2.2.2.1, H.out.2.2.2.2⟩⟩
  · have H := Lib.hid h5
    have CN := Lib.hid (fun W (hW : Lds A W) => number_ch A 1 (.iface 56 (.agg #[.string tx, snt a])) a W hW (.wrap 0 tx _ _ a (.leaf a ha)) (by decide))
    clear h5 ha
    unfold epdV snt at *
    go_wp2_with fail
    have HA2 := Lib.hid (HL1.out.alloc (.cells #[.int .i64 0, .string ⟨#[]⟩, .int .u64 0, .int .u64 0] 25))
    have HB2 := Lib.hid (HB1.out.trans (((Below.refl w1.heap.size w1).alloc (Nat.le_refl _) (.cells #[.int .i64 0, .string ⟨#[]⟩, .int .u64 0, .int .u64 0] 25)).mono HZ1.out))
    have HLT : Hid (w1.heap.size < (w1.alloc (.cells #[.int .i64 0, .string ⟨#[]⟩, .int .u64 0, .int .u64 0] 25)).heap.size) := by show _ < _; simp
    obtain ⟨p0, p1, p2, p3⟩ := box_cells4 (Below.refl _ (w1.alloc (.cells #[.int .i64 0, .string ⟨#[]⟩, .int .u64 0, .int .u64 0] 25)))
    generalize w1.alloc (.cells #[.int .i64 0, .string ⟨#[]⟩, .int .u64 0, .int .u64 0] 25) = W1 at *
    have HD := Lib.hid (HA2.out.below (Below.drew_ (B := W1.heap.size)) (Nat.le_refl _))
    have HZ2 := Lib.hid (Nat.le_trans HZ1.out (Nat.le_of_lt HLT.out))
    go_region_held3 (fun W => W.cell? ⟨w1.heap.size, 0, none⟩ = some (.int .i64 0) ∧ W.cell? ⟨w1.heap.size, 1, none⟩ = some (.string ⟨#[]⟩) ∧ W.cell? ⟨w1.heap.size, 2, none⟩ = some (.int .u64 0) ∧ W.cell? ⟨w1.heap.size, 3, none⟩ = some (.int .u64 0))
      (first | (with_reducible exact ⟨put4_cell_ x0 HNE.out, put4_cell_ x1 HNE.out, put4_cell_ x2 HNE.out, put4_cell_ x3 HNE.out⟩) | (with_reducible exact ⟨x0, x1, x2, x3⟩) | (exact ⟨p0, p1, p2, p3⟩) | fail)
      (first
        | (go_at_call 18; refine (CN.out _ HD.out).mono ?_; rintro e w2 ⟨rfl, hb2⟩; have hb2' : Below W1.heap.size W1 w2 := Below.drew_.trans hb2; have x0 := (hb2'.cell (p := ⟨w1.heap.size, 0, none⟩) HLT.out).trans p0; have x1 := (hb2'.cell (p := ⟨w1.heap.size, 1, none⟩) HLT.out).trans p1; have x2 := (hb2'.cell (p := ⟨w1.heap.size, 2, none⟩) HLT.out).trans p2; have x3 := (hb2'.cell (p := ⟨w1.heap.size, 3, none⟩) HLT.out).trans p3; have hb3 := HB2.out.trans (hb2'.mono HZ2.out); have BX := Lib.hid hb2'; obtain ⟨⟨z0, z1, z2, z3⟩, f0, f1, f2, f3⟩ := zeroE (g := w.heap.size) rfl hb3; have B3 := Lib.hid hb3; clear hb2 hb2' hb3)
        | fail)
    go_wp2_with fail
    refine bodyPost_ret (v := .tuple #[epdV 0 ⟨#[]⟩ 0 0, .int .i64 40]) (by simp [results, Tryd.results10, go_sem, z0, z1, z2, z3, epdV]) rfl ⟨below_put4 (HB0.out.trans (B3.out.mono (Nat.le_succ _))) (Nat.le_refl _), .inr ⟨H.out, rfl⟩⟩
end Go.Proofs.YtlncacfflalacaaDoor
