/- What parsed of layer 4 returns. -/
import Derived.Test.YtlecbblmaadpiaaGreatDoorMEidF
import Derived.Test.YtlecbblmaadpiaaGreatDoorMEidT2
import Derived.Deep.RegionHeld3
namespace Go.Proofs.YtlecbblmaadpiaaGreatDoor
open Go.RowKit
def Pars (A : Snt) (l : List UInt8) (w : World) (e : Ending) (w' : World) : Prop := Below w.heap.size w w' ∧
  ((∃ (sc : Int) (s : ByteArray) (n v : Nat), e = .returned (.tuple #[epdV sc s n v, .nilIface]) ∧ s.size ≤ l.length ∧ n < 18446744073709551616 ∧ v < 18446744073709551616 ∧ checkB (ep sc s n v) = true ∧ textE (ep sc s n v) = l) ∨
   ((∀ e0, checkB e0 = true → textE e0 ≠ l) ∧ ∃ a s, OneOf A a ∧ e = .returned (.tuple #[epdV 0 ⟨#[]⟩ 0 0, .iface 149 (.agg #[.string s, snt a])])))
set_option maxRecDepth 100000 in
set_option maxHeartbeats 1000000 in
theorem parsed_any (A : Snt) (s : ByteArray) (w : World) (hA : Lds A w) (hs : s.size ≤ 140737488355328) :
    Calls Tryz.prog 73 #[.string s] w (Pars A s.data.toList w) := by
  have HA1 := Lib.hid (hA.alloc (.cells #[.int .i64 0, .string ⟨#[]⟩, .int .u64 0, .int .u64 0] 25))
  have C1 := Lib.hid (spelt_any A s _ HA1.out hs)
  have HB0 : Hid (Below w.heap.size w (w.alloc (.cells #[.int .i64 0, .string ⟨#[]⟩, .int .u64 0, .int .u64 0] 25))) := (Below.refl _ _).alloc (Nat.le_refl _) _
  have q1 := fun (W : World) (u : TypeId) (x : Value) => run_neq_iface_nil (P := Tryz.prog) (w := W) 95 (by kernel_rfl) u x
  have q2 := fun (W : World) (u : TypeId) (x : Value) => run_eql_iface_nil (P := Tryz.prog) (w := W) 95 (by kernel_rfl) u x
  have hsl := Lib.size_eq s
  obtain ⟨L, hL⟩ : ∃ L, L = s.data.toList := ⟨_, rfl⟩
  have hsT : s.toList = L := by rw [hL, Lib.toList_data]
  rw [← hL] at hsl C1 ⊢
  have HSL := Lib.hid hsl
  have HS := Lib.hid hs
  clear hA hL hsl hs
  go_enter Tryz.func73, Tryz.ntmps73
  go_wp2_with fail
  refine C1.out.mono ?_
  rintro e w1 ⟨hb, hcase⟩
  have HL1 := Lib.hid (HA1.out.below hb (Nat.le_refl _))
  have HB1 := Lib.hid (hb.mono (show w.heap.size + 1 ≤ _ by simp))
  have HZ1 : Hid (w.heap.size + 1 ≤ w1.heap.size) := by show _ ≤ _; have h := hb.size; simpa using h
  clear hb
  obtain ⟨sc, x, n, v, rfl, h1, h2, h3, h4, h5⟩ | ⟨a, ha, rfl, h5⟩ := hcase
  · have H := Lib.hid (And.intro h2 (And.intro h3 (And.intro h4 h5)))
    have hx : x.size ≤ 140737488355328 := by have := HSL.out; have := HS.out; omega
    have hA2 := HL1.out.alloc (.cells #[.int .i64 sc, .string x, .int .u64 (n : Int), .int .u64 (v : Int)] 25)
    have C2 := Lib.hid (echeck_any A sc x n v _ hA2 hx)
    have C3 := Lib.hid (fun W (hW : Lds A W) => text_any A sc x n v W hW hx h3 h4)
    have HA2 := Lib.hid hA2
    clear h1 h2 h3 h4 h5 hx hA2
    unfold epdV at *
    go_wp2_with fail
    refine C2.out.mono ?_
    rintro e w2 ⟨hb, hcase⟩
    have HL2 := Lib.hid (HA2.out.below hb (Nat.le_refl _))
    have hbx := box_cells4 hb
    have HB2 := Lib.hid (HB1.out.trans (((Below.refl w1.heap.size w1).alloc (Nat.le_refl _) (.cells #[.int .i64 sc, .string x, .int .u64 (n : Int), .int .u64 (v : Int)] 25)).mono HZ1.out |>.trans (hb.mono (Nat.le_trans HZ1.out (le_alloc _ _)))))
    have HBB := Lib.hid hb
    clear hb
    obtain ⟨⟨z0, z1, z2, z3⟩, f0, f1, f2, f3⟩ := zeroE (g := w.heap.size) rfl HB2.out
    obtain ⟨p0, p1, p2, p3⟩ := hbx
    obtain ⟨hck, rfl⟩ | ⟨hck, a, ha, rfl⟩ := hcase
    · -- it may be
      have HCK := Lib.hid hck
      clear hck z0 z1 z2 z3 f0 f1 f2 f3
      go_wp2_with fail
      refine (C3.out _ HL2.out).mono ?_
      rintro e w3 ⟨rfl, hb⟩
      have HB3 := Lib.hid (HB2.out.trans (hb.mono (Nat.le_trans (Nat.le_trans HZ1.out (le_alloc _ _)) HBB.out.size)))
      have HL3 := Lib.hid (HL2.out.below hb (Nat.le_refl _))
      have hbx := box_cells4 (HBB.out.trans (hb.mono HBB.out.size))
      clear hb p0 p1 p2 p3
      obtain ⟨⟨z0, z1, z2, z3⟩, f0, f1, f2, f3⟩ := zeroE (g := w.heap.size) rfl HB3.out
      obtain ⟨p0, p1, p2, p3⟩ := hbx
      have gf := HL3.out.cf
      unfold snt at gf
      have hTT : (strL (textE (ep sc x n v))).toList = textE (ep sc x n v) := by rw [Lib.toList_data, strL_list]
      by_cases hte : textE (ep sc x n v) = L
      · have HTE := Lib.hid hte
        have e1 : ((strL (textE (ep sc x n v))).toList == s.toList) = true := by rw [hTT, hsT, hte]; simp
        have e2 : strL (textE (ep sc x n v)) = s := by rw [hte, ← hsT, Lib.toList_data, strL_data]
        clear hte gf hTT e1
        rw [e2]
        clear e2
        go_wp2_with fail
        refine bodyPost_ret (v := .tuple #[epdV sc x n v, .nilIface]) (by simp [results, Tryz.results73, go_sem, z0, z1, z2, z3, epdV]) rfl ⟨below_put4 (HB0.out.trans (HB3.out.mono (Nat.le_succ _))) (Nat.le_refl _), .inl ⟨sc, x, n, v, rfl, H.out.1, H.out.2.1, H.out.2.2.1, HCK.out, HTE.out⟩⟩
      · have e1 : ((strL (textE (ep sc x n v))).toList == L) = false := by rw [hTT]; exact beq_eq_false_iff_ne.2 hte
        have HNO : Hid (∀ e0, checkB e0 = true → textE e0 ≠ L) := fun e0 hc0 ht0 => by
          have h := H.out.2.2.2 e0 hc0 ht0
          injection h with h
          rw [← h] at ht0
          exact hte ht0
        clear hte hTT
        generalize strL (textE (ep sc x n v)) = T at *
        go_wp2_with fail
        refine bodyPost_ret (v := .tuple #[epdV 0 ⟨#[]⟩ 0 0, .iface 149 (.agg #[.string ⟨#[116, 101, 120, 116]⟩, snt A.f])]) (by simp [results, Tryz.results73, go_sem, z0, z1, z2, z3, epdV, snt]) rfl ⟨below_put4 (HB0.out.trans (HB3.out.mono (Nat.le_succ _))) (Nat.le_refl _), .inr ⟨HNO.out, A.f, _, .inr (.inr (.inr rfl)), rfl⟩⟩
    · have HO := Lib.hid ha
      have HNO : Hid (∀ e0, checkB e0 = true → textE e0 ≠ L) := fun e0 hc0 ht0 => by
        have h := H.out.2.2.2 e0 hc0 ht0
        injection h with h
        rw [← h, hck] at hc0
        cases hc0
      clear hck ha p0 p1 p2 p3
      unfold snt at *
      go_wp2_with fail
      refine bodyPost_ret (v := .tuple #[epdV 0 ⟨#[]⟩ 0 0, .iface 149 (.agg #[.string ⟨#[116, 101, 120, 116]⟩, snt a])]) (by simp [results, Tryz.results73, go_sem, z0, z1, z2, z3, epdV, snt]) rfl ⟨below_put4 (HB0.out.trans (HB2.out.mono (Nat.le_succ _))) (Nat.le_refl _), .inr ⟨HNO.out, a, _, HO.out, rfl⟩⟩
  · have HO := Lib.hid ha
    have HNO : Hid (∀ e0, checkB e0 = true → textE e0 ≠ L) := fun e0 hc0 ht0 => by
      have h := h5 e0 hc0 ht0
      cases h
    clear ha h5
    have HB2 := Lib.hid (HB1.out.trans (((Below.refl w1.heap.size w1).alloc (Nat.le_refl _) (.cells #[.int .i64 0, .string ⟨#[]⟩, .int .u64 0, .int .u64 0] 25)).mono HZ1.out))
    obtain ⟨⟨z0, z1, z2, z3⟩, f0, f1, f2, f3⟩ := zeroE (g := w.heap.size) rfl HB2.out
    unfold epdV snt at *
    go_wp2_with fail
    refine bodyPost_ret (v := .tuple #[epdV 0 ⟨#[]⟩ 0 0, .iface 149 (.agg #[.string ⟨#[116, 101, 120, 116]⟩, snt a])]) (by simp [results, Tryz.results73, go_sem, z0, z1, z2, z3, epdV, snt]) rfl ⟨below_put4 (HB0.out.trans (HB2.out.mono (Nat.le_succ _))) (Nat.le_refl _), .inr ⟨HNO.out, a, _, HO.out, rfl⟩⟩
def ParsE (l : List UInt8) (w : World) (e : Ending) (w' : World) : Prop := Below w.heap.size w w' ∧
  ((∃ (sc : Int) (s : ByteArray) (n v : Nat), e = .returned (.tuple #[epdV sc s n v, .int .i64 0]) ∧ s.size ≤ l.length ∧ n < 18446744073709551616 ∧ v < 18446744073709551616 ∧ checkB (ep sc s n v) = true ∧ textE (ep sc s n v) = l) ∨
   ((∀ e0, checkB e0 = true → textE e0 ≠ l) ∧ e = .returned (.tuple #[epdV 0 ⟨#[]⟩ 0 0, .int .i64 40])))
set_option maxRecDepth 100000 in
set_option maxHeartbeats 1000000 in
theorem parse_any (A : Snt) (s : ByteArray) (w : World) (hA : Lds A w) (hs : s.size ≤ 140737488355328) :
    Calls Tryz.prog 25 #[.string s] w (ParsE s.data.toList w) := by
  have HA1 := Lib.hid (hA.alloc (.cells #[.int .i64 0, .string ⟨#[]⟩, .int .u64 0, .int .u64 0] 25))
  have C1 := Lib.hid (parsed_any A s _ HA1.out hs)
  have HB0 : Hid (Below w.heap.size w (w.alloc (.cells #[.int .i64 0, .string ⟨#[]⟩, .int .u64 0, .int .u64 0] 25))) := (Below.refl _ _).alloc (Nat.le_refl _) _
  generalize s.data.toList = L at *
  clear hA hs
  go_enter Tryz.func25, Tryz.ntmps25
  go_wp2_with fail
  refine C1.out.mono ?_
  rintro e w1 ⟨hb, hcase⟩
  have HL1 := Lib.hid (HA1.out.below hb (Nat.le_refl _))
  have HB1 := Lib.hid (hb.mono (show w.heap.size + 1 ≤ _ by simp))
  have HZ1 : Hid (w.heap.size + 1 ≤ w1.heap.size) := by show _ ≤ _; have h := hb.size; simpa using h
  have HNE : Hid (¬ w.heap.size = w1.heap.size) := fun h => by have := HZ1.out; omega
  clear hb
  obtain ⟨sc, x, n, v, rfl, h2, h3, h4, h5, h6⟩ | ⟨h5, a, tx, ha, rfl⟩ := hcase
  · have H := Lib.hid (And.intro h2 (And.intro h3 (And.intro h4 (And.intro h5 h6))))
    have CN := Lib.hid (fun W (hW : Lds A W) => number_nilB A W hW)
    clear h2 h3 h4 h5 h6
    unfold epdV at *
    go_wp2_with fail
    have HA2 := Lib.hid (HL1.out.alloc (.cells #[.int .i64 sc, .string x, .int .u64 (n : Int), .int .u64 (v : Int)] 25))
    have HB2 := Lib.hid (HB1.out.trans (((Below.refl w1.heap.size w1).alloc (Nat.le_refl _) (.cells #[.int .i64 sc, .string x, .int .u64 (n : Int), .int .u64 (v : Int)] 25)).mono HZ1.out))
    have HLT : Hid (w1.heap.size < (w1.alloc (.cells #[.int .i64 sc, .string x, .int .u64 (n : Int), .int .u64 (v : Int)] 25)).heap.size) := by show _ < _; simp
    obtain ⟨p0, p1, p2, p3⟩ := box_cells4 (Below.refl _ (w1.alloc (.cells #[.int .i64 sc, .string x, .int .u64 (n : Int), .int .u64 (v : Int)] 25)))
    generalize w1.alloc (.cells #[.int .i64 sc, .string x, .int .u64 (n : Int), .int .u64 (v : Int)] 25) = W1 at *
    have HD := Lib.hid (HA2.out.below (Below.drew_ (B := W1.heap.size)) (Nat.le_refl _))
    have HZ2 := Lib.hid (Nat.le_trans HZ1.out (Nat.le_of_lt HLT.out))
    go_region_held3 (fun W => W.cell? ⟨w1.heap.size, 0, none⟩ = some (.int .i64 sc) ∧ W.cell? ⟨w1.heap.size, 1, none⟩ = some (.string x) ∧ W.cell? ⟨w1.heap.size, 2, none⟩ = some (.int .u64 (n : Int)) ∧ W.cell? ⟨w1.heap.size, 3, none⟩ = some (.int .u64 (v : Int)))
      (first | (with_reducible exact ⟨put4_cell_ x0 HNE.out, put4_cell_ x1 HNE.out, put4_cell_ x2 HNE.out, put4_cell_ x3 HNE.out⟩) | (with_reducible exact ⟨x0, x1, x2, x3⟩) | (exact ⟨p0, p1, p2, p3⟩) | fail)
      (first
        | (go_at_call 66; refine (CN.out _ HD.out).mono ?_; rintro e w2 ⟨rfl, hb2⟩; have hb2' : Below W1.heap.size W1 w2 := Below.drew_.trans hb2; have x0 := (hb2'.cell (p := ⟨w1.heap.size, 0, none⟩) HLT.out).trans p0; have x1 := (hb2'.cell (p := ⟨w1.heap.size, 1, none⟩) HLT.out).trans p1; have x2 := (hb2'.cell (p := ⟨w1.heap.size, 2, none⟩) HLT.out).trans p2; have x3 := (hb2'.cell (p := ⟨w1.heap.size, 3, none⟩) HLT.out).trans p3; have hb3 := HB2.out.trans (hb2'.mono HZ2.out); have BX := Lib.hid hb2'; obtain ⟨⟨z0, z1, z2, z3⟩, f0, f1, f2, f3⟩ := zeroE (g := w.heap.size) rfl hb3; have B3 := Lib.hid hb3; clear hb2 hb2' hb3)
        | fail)
    go_wp2_with fail
    refine bodyPost_ret (v := .tuple #[epdV sc x n v, .int .i64 0]) (by simp [results, Tryz.results25, go_sem, z0, z1, z2, z3, epdV]) rfl ⟨below_put4 (HB0.out.trans (B3.out.mono (Nat.le_succ _))) (Nat.le_refl _), .inl ⟨sc, x, n, v, rfl, H.out.1, H.out.2.1, H.out.2.2.1, H.out.2.2.2.1, H.out.2.2.2.2⟩⟩
  · have H := Lib.hid h5
    have CN := Lib.hid (fun W (hW : Lds A W) => number_ch A 1 (.iface 149 (.agg #[.string tx, snt a])) a W hW (.wrap 0 tx _ _ a (.leaf a ha)) (by decide))
    clear h5 ha
    unfold epdV snt at *
    go_wp2_with fail
    have HA2 := Lib.hid (HL1.out.alloc (.cells #[.int .i64 0, .string ⟨#[]⟩, .int .u64 0, .int .u64 0] 25))
    have HB2 := Lib.hid (HB1.out.trans (((Below.refl w1.heap.size w1).alloc (Nat.le_refl _) (.cells #[.int .i64 0, .string ⟨#[]⟩, .int .u64 0, .int .u64 0] 25)).mono HZ1.out))
    have HLT : Hid (w1.heap.size < (w1.alloc (.cells #[.int .i64 0, .string ⟨#[]⟩, .int .u64 0, .int .u64 0] 25)).heap.size) := by show _ < _; simp
    obtain ⟨p0, p1, p2, p3⟩ := box_cells4 (Below.refl _ (w1.alloc (.cells #[.int .i64 0, .string ⟨#[]⟩, .int .u64 0, .int .u64 0] 25)))
    generalize w1.alloc (.cells #[.int .i64 0, .string ⟨#[]⟩, .int .u64 0, .int .u64 0] 25) = W1 at *
    have HD := Lib.hid (HA2.out.below (Below.drew_ (B := W1.heap.size)) (Nat.le_refl _))
    have HZ2 := Lib.hid (Nat.le_trans HZ1.out (Nat.le_of_lt HLT.out))
    go_region_held3 (fun W => W.cell? ⟨w1.heap.size, 0, none⟩ = some (.int .i64 0) ∧ W.cell? ⟨w1.heap.size, 1, none⟩ = some (.string ⟨#[]⟩) ∧ W.cell? ⟨w1.heap.size, 2, none⟩ = some (.int .u64 0) ∧ W.cell? ⟨w1.heap.size, 3, none⟩ = some (.int .u64 0))
      (first | (with_reducible exact ⟨put4_cell_ x0 HNE.out, put4_cell_ x1 HNE.out, put4_cell_ x2 HNE.out, put4_cell_ x3 HNE.out⟩) | (with_reducible exact ⟨x0, x1, x2, x3⟩) | (exact ⟨p0, p1, p2, p3⟩) | fail)
      (first
        | (go_at_call 66; refine (CN.out _ HD.out).mono ?_; rintro e w2 ⟨rfl, hb2⟩; have hb2' : Below W1.heap.size W1 w2 := Below.drew_.trans hb2; have x0 := (hb2'.cell (p := ⟨w1.heap.size, 0, none⟩) HLT.out).trans p0; have x1 := (hb2'.cell (p := ⟨w1.heap.size, 1, none⟩) HLT.out).trans p1; have x2 := (hb2'.cell (p := ⟨w1.heap.size, 2, none⟩) HLT.out).trans p2; have x3 := (hb2'.cell (p := ⟨w1.heap.size, 3, none⟩) HLT.out).trans p3; have hb3 := HB2.out.trans (hb2'.mono HZ2.out); have BX := Lib.hid hb2'; obtain ⟨⟨z0, z1, z2, z3⟩, f0, f1, f2, f3⟩ := zeroE (g := w.heap.size) rfl hb3; have B3 := Lib.hid hb3; clear hb2 hb2' hb3)
        | fail)
    go_wp2_with fail
    refine bodyPost_ret (v := .tuple #[epdV 0 ⟨#[]⟩ 0 0, .int .i64 40]) (by simp [results, Tryz.results25, go_sem, z0, z1, z2, z3, epdV]) rfl ⟨below_put4 (HB0.out.trans (B3.out.mono (Nat.le_succ _))) (Nat.le_refl _), .inr ⟨H.out, rfl⟩⟩
end Go.Proofs.YtlecbblmaadpiaaGreatDoor
/- What must come at any rate ('heads' of layer 4's statements): true. -/
namespace Go.Proofs.YtlecbblmaadpiaaGreatDoor
open Go.RowKit
open Go.Lib (decDigits)
def hE1 : Epd := ep 2 ⟨#[]⟩ 3 7
def hE2 : Epd := ep 1 ⟨#[47, 47, 97, 47, 98]⟩ 0 0
theorem hE1_ok : checkB hE1 = true := by decide +kernel
theorem hE2_ok : checkB hE2 = true := by decide +kernel
theorem hE0_no : checkB (ep 0 ⟨#[]⟩ 0 0) = false := by decide +kernel
theorem hE1_item : itemE hE1 = .mk 4 0 [] [.mk 0 2 [] [], .mk 4 0 [] [.mk 0 3 [] [], .mk 0 7 [] []]] := rfl
theorem hE2_text : textE hE2 = [100, 116, 110, 58, 47, 47, 97, 47, 98] := by
  rw [textE_dtn hE2_ok rfl (by decide)]; rfl
theorem hE2_node : strL (nodeE hE2) = ⟨#[100, 116, 110, 58, 47, 47, 97, 47]⟩ := by
  rw [node_dtn hE2_ok rfl (by decide)]; rfl
theorem hE3_text : strL (textE (ep 1 ⟨#[]⟩ 0 0)) = ⟨#[100, 116, 110, 58, 110, 111, 110, 101]⟩ := by
  rw [textE_none (by decide +kernel) rfl rfl]; rfl
theorem h_bad : ∀ e0, checkB e0 = true → textE e0 ≠ [105, 112, 110, 58, 48, 51, 46, 55] := by
  intro e hc ht
  by_cases h1 : e.scheme = 1
  · by_cases hn : e.name = []
    · rw [textE_none hc h1 hn] at ht; simp [dtnL] at ht
    · rw [textE_dtn hc h1 hn] at ht; simp [dtnL] at ht
  · obtain ⟨h2, -⟩ := check_ipn hc h1
    rw [textE_ipn hc h2, show ([105, 112, 110, 58, 48, 51, 46, 55] : List UInt8) = ipnL ++ ([48, 51] ++ 46 :: [55]) from rfl] at ht
    have h := List.append_cancel_left ht
    obtain ⟨h3, -⟩ := dot_split _ _ _ _ (dec_no_dot e.node) (by decide) h
    by_cases hx : e.node < 10
    · rw [dec_small hx] at h3; simp at h3
    · rw [dec_big hx] at h3
      have h4 : decDigits (e.node / 10) = [48] := by
        have h5 : decDigits (e.node / 10) ++ [UInt8.ofNat (48 + e.node % 10)] = [48] ++ [51] := h3
        exact (List.append_inj' h5 rfl).1
      have h6 : decDigits (e.node / 10) = decDigits 0 := by rw [h4, dec_small (by decide)]; rfl
      have := dec_inj _ _ h6
      omega
theorem ep_inj {sc sc' : Int} {s s' : ByteArray} {n n' v v' : Nat} (h : ep sc s n v = ep sc' s' n' v') : sc = sc' ∧ s = s' ∧ n = n' ∧ v = v' := by
  unfold ep at h
  injection h with h1 h2 h3 h4
  refine ⟨h1, ?_, h3, h4⟩
  rw [← strL_data s, h2, strL_data]
set_option maxRecDepth 100000 in
set_option maxHeartbeats 8000000 in
theorem heads_any (A : Snt) (w : World) (hA : Lds A w) : Calls Tryz.prog 24 #[] w fun e w' => e = .returned (.bool true) ∧ Below w.heap.size w w' := by
  have CI1 := Lib.hid (fun W (hW : Lds A W) => item_any A 2 ⟨#[]⟩ 3 7 W hW (by decide) (by decide) (by decide))
  have CI2 := Lib.hid (fun W (hW : Lds A W) => item_any A 0 ⟨#[]⟩ 0 0 W hW (by decide) (by decide) (by decide))
  have CP1 := Lib.hid (fun W (hW : Lds A W) => parse_any A ⟨#[100, 116, 110, 58, 47, 47, 97, 47, 98]⟩ W hW (by decide))
  have CP2 := Lib.hid (fun W (hW : Lds A W) => parse_any A ⟨#[105, 112, 110, 58, 48, 51, 46, 55]⟩ W hW (by decide))
  have CN := Lib.hid (fun W (hW : Lds A W) => node_any A 1 ⟨#[47, 47, 97, 47, 98]⟩ 0 0 W hW (by decide) (by decide))
  have CT := Lib.hid (fun W (hW : Lds A W) => text_any A 1 ⟨#[]⟩ 0 0 W hW (by decide) (by decide) (by decide))
  have CF := Lib.hid (fun (v : Value) W (hW : Lds A W) (hr : RdI W W.heap.size v (itemE hE1)) => from_any A (itemE hE1) v W.heap.size W hW (Nat.le_refl _) hr)
  rw [show ep 1 ⟨#[47, 47, 97, 47, 98]⟩ 0 0 = hE2 from rfl, hE2_node] at CN
  rw [hE3_text] at CT
  have HA := Lib.hid hA
  unfold epdV at CI1 CI2 CN CT
  clear hA
  go_enter Tryz.func24, Tryz.ntmps24
  go_wp2_with fail
  -- the item
  refine (CI1.out _ HA.out).mono ?_
  rintro e w1 ⟨hb, ⟨-, v1, rfl, hr⟩ | ⟨h, -⟩⟩
  case inr => exact absurd hE1_ok (by rw [show hE1 = ep 2 ⟨#[]⟩ 3 7 from rfl, h]; decide)
  have hr' : RdI w1 w1.heap.size v1 (itemE hE1) := hr
  have hr2 := hr'
  rw [hE1_item] at hr2
  obtain ⟨A1, nd1, cd1, AL1, cl1, rfl, -, -, -, -, hl1, hrow⟩ := hr2.open
  obtain ⟨b, o, rfl, hbb, hs⟩ := hrow (by decide)
  rw [RdIs, RdIs] at hs
  obtain ⟨-, ⟨c0, c1, c2, c3, q0, q1, q2, q3, hx1⟩, -⟩ := hs
  obtain ⟨A2, nd2, cd2, AL2, cl2, he, -, -, -, -, hl2, -⟩ := hx1.open
  injection he with he
  simp only [Array.mk.injEq, List.cons.injEq, and_true] at he
  obtain ⟨rfl, rfl, rfl, rfl⟩ := he
  rw [show ([.mk 0 2 [] [], .mk 4 0 [] [.mk 0 3 [] [], .mk 0 7 [] []]] : List Itm).length = 2 from rfl] at *
  rw [show ([.mk 0 3 [] [], .mk 0 7 [] []] : List Itm).length = 2 from rfl] at *
  have hr3 : RdI w1 w1.heap.size (.agg #[.int .i64 4, .int .u64 0, .slice A1 nd1 cd1, .slice (some ⟨b, o, none⟩) 2 cl1]) (itemE hE1) := hr'
  have hR := hr3.below ((Below.refl w1.heap.size w1).alloc (Nat.le_refl _) (.cells #[.int .i64 4, .int .u64 0, .slice A1 nd1 cd1, .slice (some ⟨b, o, none⟩) 2 cl1] 30))
  have HB1 := Lib.hid (hb.alloc hb.size (.cells #[.int .i64 4, .int .u64 0, .slice A1 nd1 cd1, .slice (some ⟨b, o, none⟩) 2 cl1] 30))
  have HQ : Hid ((w1.alloc (.cells #[.int .i64 4, .int .u64 0, .slice A1 nd1 cd1, .slice (some ⟨b, o, none⟩) 2 cl1] 30)).cell? ⟨b, o + 4 + 3, none⟩ = some (.slice AL2 2 cl2)) := (World.cell?_alloc_lt w1 _ ⟨b, o + 4 + 3, none⟩ hbb).trans q3
  have HBX := Lib.hid (box_cells4 (Below.refl _ (w1.alloc (.cells #[.int .i64 4, .int .u64 0, .slice A1 nd1 cd1, .slice (some ⟨b, o, none⟩) 2 cl1] 30))))
  have HRR := Lib.hid (hR.more (B' := (w1.alloc (.cells #[.int .i64 4, .int .u64 0, .slice A1 nd1 cd1, .slice (some ⟨b, o, none⟩) 2 cl1] 30)).heap.size) (le_alloc _ _))
  have HL1 := Lib.hid ((HA.out.below hb (Nat.le_refl _)).alloc (.cells #[.int .i64 4, .int .u64 0, .slice A1 nd1 cd1, .slice (some ⟨b, o, none⟩) 2 cl1] 30))
  have HBL : Hid (b < (w1.alloc (.cells #[.int .i64 4, .int .u64 0, .slice A1 nd1 cd1, .slice (some ⟨b, o, none⟩) 2 cl1] 30)).heap.size ∧ w1.heap.size < (w1.alloc (.cells #[.int .i64 4, .int .u64 0, .slice A1 nd1 cd1, .slice (some ⟨b, o, none⟩) 2 cl1] 30)).heap.size) := by show _ ∧ _; simp; omega
  clear hb hr hr' hr2 hr3 hrow hbb q0 q1 q2 q3 hx1 hR hl1 hl2
  go_wp2_with fail
  generalize w1.alloc (.cells #[.int .i64 4, .int .u64 0, .slice A1 nd1 cd1, .slice (some ⟨b, o, none⟩) 2 cl1] 30) = X1 at *
  -- the first text
  refine (CP1.out _ HL1.out).mono ?_
  rintro e w2 ⟨hb, ⟨sc, s, n, v, rfl, -, -, -, hc, ht⟩ | ⟨h, -⟩⟩
  case inr => exact absurd hE2_text (h _ hE2_ok)
  obtain ⟨rfl, rfl, rfl, rfl⟩ := ep_inj (text_inj hc hE2_ok (ht.trans hE2_text.symm))
  have HL2 := Lib.hid ((HL1.out.below hb (Nat.le_refl _)).alloc (.cells #[.int .i64 1, .string ⟨#[47, 47, 97, 47, 98]⟩, .int .u64 0, .int .u64 0] 25))
  have HY := Lib.hid (box_cells4 (Below.refl _ (w2.alloc (.cells #[.int .i64 1, .string ⟨#[47, 47, 97, 47, 98]⟩, .int .u64 0, .int .u64 0] 25))))
  have HB2 := Lib.hid (hb.alloc hb.size (.cells #[.int .i64 1, .string ⟨#[47, 47, 97, 47, 98]⟩, .int .u64 0, .int .u64 0] 25))
  have HYL : Hid (w2.heap.size < (w2.alloc (.cells #[.int .i64 1, .string ⟨#[47, 47, 97, 47, 98]⟩, .int .u64 0, .int .u64 0] 25)).heap.size) := by show _ < _; simp
  clear hb hc ht
  unfold epdV
  go_wp2_with fail
  generalize w2.alloc (.cells #[.int .i64 1, .string ⟨#[47, 47, 97, 47, 98]⟩, .int .u64 0, .int .u64 0] 25) = X2 at *
  -- the second text
  refine (CP2.out _ HL2.out).mono ?_
  rintro e w3 ⟨hb, ⟨sc, s, n, v, rfl, -, -, -, hc, ht⟩ | ⟨-, rfl⟩⟩
  case inl => exact absurd ht (h_bad _ hc)
  have HL3 := Lib.hid ((HL2.out.below hb (Nat.le_refl _)).alloc (.cells #[.int .i64 0, .string ⟨#[]⟩, .int .u64 0, .int .u64 0] 25))
  have HB3 := Lib.hid (hb.alloc hb.size (.cells #[.int .i64 0, .string ⟨#[]⟩, .int .u64 0, .int .u64 0] 25))
  obtain ⟨x0, x1, x2, x3⟩ := HBX.out
  have hb13 := HB2.out.trans (HB3.out.mono HB2.out.size)
  have k0 := (hb13.cell (p := ⟨w1.heap.size, 0, none⟩) HBL.out.2).trans x0
  have k1 := (hb13.cell (p := ⟨w1.heap.size, 1, none⟩) HBL.out.2).trans x1
  have k2 := (hb13.cell (p := ⟨w1.heap.size, 2, none⟩) HBL.out.2).trans x2
  have k3 := (hb13.cell (p := ⟨w1.heap.size, 3, none⟩) HBL.out.2).trans x3
  have HR3 := Lib.hid ((HRR.out.below hb13).more hb13.size)
  have HB13 := Lib.hid hb13
  clear hb hb13 x0 x1 x2 x3
  unfold epdV
  go_wp2_with fail
  generalize w3.alloc (.cells #[.int .i64 0, .string ⟨#[]⟩, .int .u64 0, .int .u64 0] 25) = X3 at *
  -- the item's endpoint
  refine (CF.out _ _ HL3.out HR3.out).mono ?_
  rintro e w4 ⟨hb, ⟨sc, s, n, v, rfl, -, -, -, hc, ht⟩ | ⟨h, -⟩⟩
  case inr => exact absurd rfl (h _ hE1_ok)
  obtain ⟨rfl, rfl, rfl, rfl⟩ := ep_inj (item_inj hc hE1_ok ht)
  have HL4 := Lib.hid ((HL3.out.below hb (Nat.le_refl _)).alloc (.cells #[.int .i64 2, .string ⟨#[]⟩, .int .u64 3, .int .u64 7] 25))
  have HZ := Lib.hid (box_cells4 (Below.refl _ (w4.alloc (.cells #[.int .i64 2, .string ⟨#[]⟩, .int .u64 3, .int .u64 7] 25))))
  have HB4 := Lib.hid (hb.alloc hb.size (.cells #[.int .i64 2, .string ⟨#[]⟩, .int .u64 3, .int .u64 7] 25))
  have HZL : Hid (w4.heap.size < (w4.alloc (.cells #[.int .i64 2, .string ⟨#[]⟩, .int .u64 3, .int .u64 7] 25)).heap.size) := by show _ < _; simp
  clear hb hc ht k0 k1 k2 k3
  unfold epdV
  go_wp2_with fail
  generalize w4.alloc (.cells #[.int .i64 2, .string ⟨#[]⟩, .int .u64 3, .int .u64 7] 25) = X4 at *
  -- no endpoint
  refine (CI2.out _ HL4.out).mono ?_
  rintro e w5 ⟨hb, ⟨h, -⟩ | ⟨-, rfl⟩⟩
  case inl => rw [hE0_no] at h; cases h
  have HL5 := Lib.hid ((HL4.out.below hb (Nat.le_refl _)).alloc (.cells #[.int .i64 0, .int .u64 0, .slice none 0 0, .slice none 0 0] 30))
  have hb5 := hb.alloc hb.size (.cells #[.int .i64 0, .int .u64 0, .slice none 0 0, .slice none 0 0] 30)
  have hb25 := (HB3.out.trans (HB4.out.mono HB3.out.size)).trans (hb5.mono (Nat.le_trans HB3.out.size HB4.out.size))
  have hb15 := HB2.out.trans (hb25.mono HB2.out.size)
  obtain ⟨x0, x1, x2, x3⟩ := HBX.out
  obtain ⟨y0, y1, y2, y3⟩ := HY.out
  have k3 := (hb15.cell (p := ⟨w1.heap.size, 3, none⟩) HBL.out.2).trans x3
  have kq := (hb15.cell (p := ⟨b, o + 4 + 3, none⟩) HBL.out.1).trans HQ.out
  have j0 := (hb25.cell (p := ⟨w2.heap.size, 0, none⟩) HYL.out).trans y0
  have j1 := (hb25.cell (p := ⟨w2.heap.size, 1, none⟩) HYL.out).trans y1
  have j2 := (hb25.cell (p := ⟨w2.heap.size, 2, none⟩) HYL.out).trans y2
  have j3 := (hb25.cell (p := ⟨w2.heap.size, 3, none⟩) HYL.out).trans y3
  have HB5 := Lib.hid hb5
  have HB15 := Lib.hid hb15
  have HW5 := Lib.hid (show X4.heap.size ≤ (w5.alloc (.cells #[.int .i64 0, .int .u64 0, .slice none 0 0, .slice none 0 0] 30)).heap.size from hb5.size)
  clear hb hb5 hb25 hb15 x0 x1 x2 x3 y0 y1 y2 y3
  unfold zeroItem
  go_wp2_with fail
  generalize w5.alloc (.cells #[.int .i64 0, .int .u64 0, .slice none 0 0, .slice none 0 0] 30) = X5 at *
  refine (CN.out _ HL5.out).mono ?_
  rintro e w6 ⟨rfl, hb⟩
  have HL6 := Lib.hid (HL5.out.below hb (Nat.le_refl _))
  have z3 := ((HB5.out.trans (hb.mono HW5.out)).cell (p := ⟨w4.heap.size, 3, none⟩) HZL.out).trans HZ.out.2.2.2
  have HB6 := Lib.hid ((HB1.out.trans (HB15.out.mono HB1.out.size)).trans (hb.mono (Nat.le_trans HB1.out.size HB15.out.size)))
  have HW6 := Lib.hid hb.size
  clear hb k3 kq j0 j1 j2 j3
  go_wp2_with fail
  refine (CT.out _ HL6.out).mono ?_
  rintro e w7 ⟨rfl, hb⟩
  have HB7 := Lib.hid (HB6.out.trans (hb.mono HB6.out.size))
  clear hb
  go_wp2_with fail
  go_ret
  exact ⟨rfl, HB7.out⟩
end Go.Proofs.YtlecbblmaadpiaaGreatDoor
