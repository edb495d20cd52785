/- What read and From of layer 4 return. -/
import Derived.Test.YtanbjifdcplmnaaGreatDoorTBlkW1
import Derived.Test.YtanbjifdcplmnaaGreatDoorTEidR
namespace Go.Proofs.YtanbjifdcplmnaaGreatDoor
open Go.RowKit

/-- The endpoint whose item this is, or why there is none. -/
def Red (A : Snt) (x : Itm) (w : World) (e : Ending) (w' : World) : Prop := Below w.heap.size w w' ∧
  ((∃ (sc : Int) (s : ByteArray) (n v : Nat), e = .returned (.tuple #[epdV sc s n v, .nilIface]) ∧ s.size ≤ 140737488355328 ∧ n < 18446744073709551616 ∧ v < 18446744073709551616 ∧ checkB (ep sc s n v) = true ∧ itemE (ep sc s n v) = x) ∨
   ((∀ e0, checkB e0 = true → itemE e0 ≠ x) ∧ ∃ (a : Addr) (j : Nat) (E : Value), Ch A j E a ∧ j ≤ 2 ∧ e = .returned (.tuple #[epdV 0 ⟨#[]⟩ 0 0, E])))

set_option maxRecDepth 100000 in
set_option maxHeartbeats 4000000 in
theorem read_any (A : Snt) (x : Itm) (v0 : Value) (B : Nat) (w : World) (hA : Lds A w) (hB : B ≤ w.heap.size) (h : RdI w B v0 x) :
    Calls Tryz.prog 51 #[v0] w (Red A x w) := by
  obtain ⟨k, m, D, nd, cd, AL, nl, cl, rfl⟩ := h.form
  have HB0 : Hid (Below w.heap.size w ((w.alloc (.cells #[.int .i64 k, .int .u64 (m : Int), .slice D nd cd, .slice AL nl cl] 37)).alloc (.cells #[.int .i64 0, .string ⟨#[]⟩, .int .u64 0, .int .u64 0] 46))) := ((Below.refl _ _).alloc (Nat.le_refl _) _).alloc (le_alloc _ _) _
  have HA1 := Lib.hid ((hA.alloc (.cells #[.int .i64 k, .int .u64 (m : Int), .slice D nd cd, .slice AL nl cl] 37)).alloc (.cells #[.int .i64 0, .string ⟨#[]⟩, .int .u64 0, .int .u64 0] 46))
  have hs1 : ((w.alloc (.cells #[.int .i64 k, .int .u64 (m : Int), .slice D nd cd, .slice AL nl cl] 37)).alloc (.cells #[.int .i64 0, .string ⟨#[]⟩, .int .u64 0, .int .u64 0] 46)).heap.size = w.heap.size + 2 := by simp
  have C1 := Lib.hid (taken_any x _ B ((w.alloc (.cells #[.int .i64 k, .int .u64 (m : Int), .slice D nd cd, .slice AL nl cl] 37)).alloc (.cells #[.int .i64 0, .string ⟨#[]⟩, .int .u64 0, .int .u64 0] 46)) (by rw [hs1]; omega) (h.below (HB0.out.mono hB)))
  have HX := Lib.hid h
  have HBW := Lib.hid hB
  have q1 := fun (W : World) (u : TypeId) (x : Value) => run_neq_iface_nil (P := Tryz.prog) (w := W) 60 (by kernel_rfl) u x
  have q2 := fun (W : World) (u : TypeId) (x : Value) => run_eql_iface_nil (P := Tryz.prog) (w := W) 60 (by kernel_rfl) u x
  clear h hA hB hs1
  go_enter Tryz.func51, Tryz.ntmps51
  go_wp2_with fail
  refine C1.out.mono ?_
  rintro e w1 ⟨hb, sc, s, n, v, rfl, h1, h2, h3, h4⟩
  have hb12 := hb.mono (show w.heap.size + 2 ≤ _ by simp)
  have HZ1 : Hid (w.heap.size + 2 ≤ w1.heap.size) := by show _ ≤ _; have h := hb.size; simpa using h
  have HL1 := Lib.hid (HA1.out.below hb (Nat.le_refl _))
  have HH := Lib.hid h4
  have HBD := Lib.hid (And.intro h1 (And.intro h2 h3))
  have HL2 := Lib.hid (HL1.out.alloc (.cells #[.int .i64 sc, .string s, .int .u64 (n : Int), .int .u64 (v : Int)] 46))
  have C2 := Lib.hid (written_any A sc s n v _ HL2.out h1 h2 h3)
  have HB1 := Lib.hid hb12
  have hs2 : (w1.alloc (.cells #[.int .i64 sc, .string s, .int .u64 (n : Int), .int .u64 (v : Int)] 46)).heap.size = w1.heap.size + 1 := by simp
  clear hb hb12 h1 h2 h3 h4 C1
  unfold epdV at *
  go_wp2_with fail
  refine C2.out.mono ?_
  rintro e w2 ⟨hb, hcase⟩
  have HZ2 : Hid (w1.heap.size + 1 ≤ w2.heap.size) := by show _ ≤ _; have h := hb.size; rw [hs2] at h; exact h
  have HL3 := Lib.hid (HL2.out.below hb (Nat.le_refl _))
  have pe := box_cells4 hb
  have HB2 := Lib.hid (HB1.out.trans ((((Below.refl w1.heap.size w1).alloc (Nat.le_refl _) (.cells #[.int .i64 sc, .string s, .int .u64 (n : Int), .int .u64 (v : Int)] 46)).mono HZ1.out).trans (hb.mono (by rw [hs2]; have := HZ1.out; omega))))
  clear hb C2
  obtain ⟨hc, vy, rfl, hry⟩ | ⟨hc, a, tx, ha, rfl⟩ := hcase
  · rw [hs2] at hry
    obtain ⟨k2, m2, D2, nd2, cd2, AL2, nl2, cl2, rfl⟩ := hry.form
    have hbI := (Below.refl w2.heap.size w2).alloc (Nat.le_refl _) (.cells #[.int .i64 k2, .int .u64 (m2 : Int), .slice D2 nd2 cd2, .slice AL2 nl2 cl2] 37)
    have hry5 := (hry.grow hbI (Nat.zero_le _)).unmask
    have HB5 := Lib.hid (HB2.out.trans (hbI.mono (by have := HZ1.out; have := HZ2.out; omega)))
    have HL5 := Lib.hid (HL3.out.alloc (.cells #[.int .i64 k2, .int .u64 (m2 : Int), .slice D2 nd2 cd2, .slice AL2 nl2 cl2] 37))
    have hs3 : (w2.alloc (.cells #[.int .i64 k2, .int .u64 (m2 : Int), .slice D2 nd2 cd2, .slice AL2 nl2 cl2] 37)).heap.size = w2.heap.size + 1 := by simp
    have hx5 := (HX.out.below ((HB0.out.trans (HB5.out.mono (Nat.le_add_right _ 2))).mono HBW.out)).more (show B ≤ (w2.alloc (.cells #[.int .i64 k2, .int .u64 (m2 : Int), .slice D2 nd2 cd2, .slice AL2 nl2 cl2] 37)).heap.size by rw [hs3]; have := HZ1.out; have := HZ2.out; have := HBW.out; omega)
    have C3 := Lib.hid (csame_n (par (itemE (ep sc s n v)) + 1) x (itemE (ep sc s n v)) _ _ _ _ (Nat.lt_succ_self _) (Nat.le_refl _) hx5 hry5)
    have px := box_cells4 (((Below.refl (w.alloc (.cells #[.int .i64 k, .int .u64 (m : Int), .slice D nd cd, .slice AL nl cl] 37)).heap.size (w.alloc (.cells #[.int .i64 k, .int .u64 (m : Int), .slice D nd cd, .slice AL nl cl] 37))).alloc (Nat.le_refl _) (.cells #[.int .i64 0, .string ⟨#[]⟩, .int .u64 0, .int .u64 0] 46)).trans (HB5.out.mono (by simp)))
    have pe5 : ∀ (p : Addr) (u : Value), w2.cell? p = some u → (w2.alloc (.cells #[.int .i64 k2, .int .u64 (m2 : Int), .slice D2 nd2 cd2, .slice AL2 nl2 cl2] 37)).cell? p = some u := fun p u hc => (World.cell?_alloc_lt _ _ _ (World.block_lt_of_cell? w2 _ hc)).trans hc
    obtain ⟨e0, e1, e2, e3⟩ := pe
    have E0 := Lib.hid (pe5 _ _ e0)
    have E1 := Lib.hid (pe5 _ _ e1)
    have E2 := Lib.hid (pe5 _ _ e2)
    have E3 := Lib.hid (pe5 _ _ e3)
    have HC := Lib.hid hc
    have HW5 : Hid (w1.heap.size < (w2.alloc (.cells #[.int .i64 k2, .int .u64 (m2 : Int), .slice D2 nd2 cd2, .slice AL2 nl2 cl2] 37)).heap.size) := by show _ < _; rw [hs3]; have := HZ2.out; omega
    have HW6 : Hid (w.heap.size + 2 ≤ (w2.alloc (.cells #[.int .i64 k2, .int .u64 (m2 : Int), .slice D2 nd2 cd2, .slice AL2 nl2 cl2] 37)).heap.size) := by show _ ≤ _; rw [hs3]; have := HZ1.out; have := HZ2.out; omega
    obtain ⟨x0, x1, x2, x3⟩ := px
    clear hc hry hbI hry5 hs3 hx5 pe5 e0 e1 e2 e3 hs2
    go_wp2_with fail
    refine C3.out.mono ?_
    rintro e w3 ⟨r, rfl, hr, hb⟩
    have HRR := Lib.hid hr
    have HB6 := Lib.hid (HB5.out.trans (hb.mono HW6.out))
    have hL6 := HL5.out.below hb (Nat.le_refl _)
    have e0 := (hb.cell (p := ⟨w1.heap.size, 0, none⟩) HW5.out).trans E0.out
    have e1 := (hb.cell (p := ⟨w1.heap.size, 1, none⟩) HW5.out).trans E1.out
    have e2 := (hb.cell (p := ⟨w1.heap.size, 2, none⟩) HW5.out).trans E2.out
    have e3 := (hb.cell (p := ⟨w1.heap.size, 3, none⟩) HW5.out).trans E3.out
    have gf := hL6.cf
    unfold snt at gf
    clear hb hr hL6 x0 x1 x2 x3
    obtain ⟨⟨z0, z1, z2, z3⟩, f0, f1, f2, f3⟩ := zeroE (g := w.heap.size + 1) (by simp) HB6.out
    cases r with
    | true =>
      go_wp2_with fail
      refine bodyPost_ret (v := .tuple #[epdV sc s n v, .nilIface]) (by simp [results, Tryz.results51, go_sem, z0, z1, z2, z3, epdV]) rfl ⟨below_put4 (HB0.out.trans (HB6.out.mono (Nat.le_add_right _ 2))) (Nat.le_succ _), .inl ⟨sc, s, n, v, rfl, HBD.out.1, HBD.out.2.1, HBD.out.2.2, HC.out, (HRR.out.1 trivial).symm⟩⟩
    | false =>
      have HNO : Hid (∀ e0, checkB e0 = true → itemE e0 ≠ x) := fun e0 hc0 hi0 => by
        have h := HH.out e0 hc0 hi0
        rw [h] at hi0
        have := HRR.out.2 hi0.symm
        cases this
      go_wp2_with fail
      refine bodyPost_ret (v := .tuple #[epdV 0 ⟨#[]⟩ 0 0, eflt ⟨#[105, 116, 101, 109]⟩ (snt A.f)]) (by simp [results, Tryz.results51, go_sem, z0, z1, z2, z3, epdV, snt, eflt]) rfl ⟨below_put4 (HB0.out.trans (HB6.out.mono (Nat.le_add_right _ 2))) (Nat.le_succ _), .inr ⟨HNO.out, A.f, _, _, .wrap 0 _ _ _ _ (.leaf A.f (.inr (.inr (.inr rfl)))), by decide, rfl⟩⟩
  · have hbI := (Below.refl w2.heap.size w2).alloc (Nat.le_refl _) (.cells #[.int .i64 0, .int .u64 0, .slice none 0 0, .slice none 0 0] 37)
    have HB5 := Lib.hid (HB2.out.trans (hbI.mono (by have := HZ1.out; have := HZ2.out; omega)))
    have HNO : Hid (∀ e0, checkB e0 = true → itemE e0 ≠ x) := fun e0 hc0 hi0 => by
      have h := HH.out e0 hc0 hi0
      rw [h, hc] at hc0
      cases hc0
    have HO := Lib.hid ha
    clear hbI hc ha pe hs2
    obtain ⟨⟨z0, z1, z2, z3⟩, f0, f1, f2, f3⟩ := zeroE (g := w.heap.size + 1) (by simp) HB5.out
    unfold zeroItem eflt snt at *
    go_wp2_with fail
    refine bodyPost_ret (v := .tuple #[epdV 0 ⟨#[]⟩ 0 0, eflt ⟨#[105, 116, 101, 109]⟩ (eflt tx (snt a))]) (by simp [results, Tryz.results51, go_sem, z0, z1, z2, z3, epdV, snt, eflt]) rfl ⟨below_put4 (HB0.out.trans (HB5.out.mono (Nat.le_add_right _ 2))) (Nat.le_succ _), .inr ⟨HNO.out, a, _, _, .wrap 1 _ _ _ _ (.wrap 0 _ _ _ _ (.leaf a HO.out)), by decide, rfl⟩⟩

/-- The endpoint whose item this is, or 40. -/
def FromE (x : Itm) (w : World) (e : Ending) (w' : World) : Prop := Below w.heap.size w w' ∧
  ((∃ (sc : Int) (s : ByteArray) (n v : Nat), e = .returned (.tuple #[epdV sc s n v, .int .i64 0]) ∧ s.size ≤ 140737488355328 ∧ n < 18446744073709551616 ∧ v < 18446744073709551616 ∧ checkB (ep sc s n v) = true ∧ itemE (ep sc s n v) = x) ∨
   ((∀ e0, checkB e0 = true → itemE e0 ≠ x) ∧ e = .returned (.tuple #[epdV 0 ⟨#[]⟩ 0 0, .int .i64 40])))

set_option maxRecDepth 100000 in
set_option maxHeartbeats 1000000 in
theorem from_any (A : Snt) (x : Itm) (v0 : Value) (B : Nat) (w : World) (hA : Lds A w) (hB : B ≤ w.heap.size) (h : RdI w B v0 x) :
    Calls Tryz.prog 36 #[v0] w (FromE x w) := by
  obtain ⟨k, m, D, nd, cd, AL, nl, cl, rfl⟩ := h.form
  have HB0 : Hid (Below w.heap.size w ((w.alloc (.cells #[.int .i64 k, .int .u64 (m : Int), .slice D nd cd, .slice AL nl cl] 37)).alloc (.cells #[.int .i64 0, .string ⟨#[]⟩, .int .u64 0, .int .u64 0] 46))) := ((Below.refl _ _).alloc (Nat.le_refl _) _).alloc (le_alloc _ _) _
  have HA1 := Lib.hid ((hA.alloc (.cells #[.int .i64 k, .int .u64 (m : Int), .slice D nd cd, .slice AL nl cl] 37)).alloc (.cells #[.int .i64 0, .string ⟨#[]⟩, .int .u64 0, .int .u64 0] 46))
  have C1 := Lib.hid (read_any A x _ B _ HA1.out (by have h1 := HB0.out.size; omega) (h.below (HB0.out.mono hB)))
  clear hA h hB
  go_enter Tryz.func36, Tryz.ntmps36
  go_wp2_with fail
  refine C1.out.mono ?_
  rintro e w1 ⟨hb, hcase⟩
  have HL1 := Lib.hid (HA1.out.below hb (Nat.le_refl _))
  have HB1 := Lib.hid (hb.mono (show w.heap.size + 2 ≤ _ by simp))
  have HZ1 : Hid (w.heap.size + 2 ≤ w1.heap.size) := by show _ ≤ _; have h := hb.size; simpa using h
  have HNE : Hid (¬ w.heap.size + 1 = w1.heap.size) := fun h => by have := HZ1.out; omega
  clear hb
  obtain ⟨sc, s, n, v, rfl, h2, h3, h4, h5, h6⟩ | ⟨h5, a, j, E, hch, hj, rfl⟩ := hcase
  · have H := Lib.hid (And.intro h2 (And.intro h3 (And.intro h4 (And.intro h5 h6))))
    have CN := Lib.hid (fun W (hW : Lds A W) => number_nilB A W hW)
    clear h2 h3 h4 h5 h6
    unfold epdV at *
    go_wp2_with fail
    have HA2 := Lib.hid (HL1.out.alloc (.cells #[.int .i64 sc, .string s, .int .u64 (n : Int), .int .u64 (v : Int)] 46))
    have HB2 := Lib.hid (HB1.out.trans (((Below.refl w1.heap.size w1).alloc (Nat.le_refl _) (.cells #[.int .i64 sc, .string s, .int .u64 (n : Int), .int .u64 (v : Int)] 46)).mono HZ1.out))
    have HLT : Hid (w1.heap.size < (w1.alloc (.cells #[.int .i64 sc, .string s, .int .u64 (n : Int), .int .u64 (v : Int)] 46)).heap.size) := by show _ < _; simp
    obtain ⟨p0, p1, p2, p3⟩ := box_cells4 (Below.refl _ (w1.alloc (.cells #[.int .i64 sc, .string s, .int .u64 (n : Int), .int .u64 (v : Int)] 46)))
    generalize w1.alloc (.cells #[.int .i64 sc, .string s, .int .u64 (n : Int), .int .u64 (v : Int)] 46) = W1 at *
    have HD := Lib.hid (HA2.out.below (Below.drew_ (B := W1.heap.size)) (Nat.le_refl _))
    have HZ2 := Lib.hid (Nat.le_trans HZ1.out (Nat.le_of_lt HLT.out))
    go_region_held3 (fun W => W.cell? ⟨w1.heap.size, 0, none⟩ = some (.int .i64 sc) ∧ W.cell? ⟨w1.heap.size, 1, none⟩ = some (.string s) ∧ W.cell? ⟨w1.heap.size, 2, none⟩ = some (.int .u64 (n : Int)) ∧ W.cell? ⟨w1.heap.size, 3, none⟩ = some (.int .u64 (v : Int)))
      (first | (with_reducible exact ⟨put4_cell_ x0 HNE.out, put4_cell_ x1 HNE.out, put4_cell_ x2 HNE.out, put4_cell_ x3 HNE.out⟩) | (with_reducible exact ⟨x0, x1, x2, x3⟩) | (exact ⟨p0, p1, p2, p3⟩) | fail)
      (first
        | (go_at_call 52; refine (CN.out _ HD.out).mono ?_; rintro e w2 ⟨rfl, hb2⟩; have hb2' : Below W1.heap.size W1 w2 := Below.drew_.trans hb2; have x0 := (hb2'.cell (p := ⟨w1.heap.size, 0, none⟩) HLT.out).trans p0; have x1 := (hb2'.cell (p := ⟨w1.heap.size, 1, none⟩) HLT.out).trans p1; have x2 := (hb2'.cell (p := ⟨w1.heap.size, 2, none⟩) HLT.out).trans p2; have x3 := (hb2'.cell (p := ⟨w1.heap.size, 3, none⟩) HLT.out).trans p3; have hb3 := HB2.out.trans (hb2'.mono HZ2.out); have BX := Lib.hid hb2'; obtain ⟨⟨z0, z1, z2, z3⟩, f0, f1, f2, f3⟩ := zeroE (g := w.heap.size + 1) (by simp) hb3; have B3 := Lib.hid hb3; clear hb2 hb2' hb3)
        | fail)
    go_wp2_with fail
    refine bodyPost_ret (v := .tuple #[epdV sc s n v, .int .i64 0]) (by simp [results, Tryz.results36, go_sem, z0, z1, z2, z3, epdV]) rfl ⟨below_put4 (HB0.out.trans (B3.out.mono (Nat.le_add_right _ 2))) (Nat.le_succ _), .inl ⟨sc, s, n, v, rfl, H.out.1, H.out.2.1, H.out.2.2.1, H.out.2.2.2.1, H.out.2.2.2.2⟩⟩
  · have H := Lib.hid h5
    have CN := Lib.hid (fun W (hW : Lds A W) => number_ch A j E a W hW hch (by omega))
    clear h5 hch hj
    unfold epdV at *
    go_wp2_with fail
    have HA2 := Lib.hid (HL1.out.alloc (.cells #[.int .i64 0, .string ⟨#[]⟩, .int .u64 0, .int .u64 0] 46))
    have HB2 := Lib.hid (HB1.out.trans (((Below.refl w1.heap.size w1).alloc (Nat.le_refl _) (.cells #[.int .i64 0, .string ⟨#[]⟩, .int .u64 0, .int .u64 0] 46)).mono HZ1.out))
    have HLT : Hid (w1.heap.size < (w1.alloc (.cells #[.int .i64 0, .string ⟨#[]⟩, .int .u64 0, .int .u64 0] 46)).heap.size) := by show _ < _; simp
    obtain ⟨p0, p1, p2, p3⟩ := box_cells4 (Below.refl _ (w1.alloc (.cells #[.int .i64 0, .string ⟨#[]⟩, .int .u64 0, .int .u64 0] 46)))
    generalize w1.alloc (.cells #[.int .i64 0, .string ⟨#[]⟩, .int .u64 0, .int .u64 0] 46) = W1 at *
    have HD := Lib.hid (HA2.out.below (Below.drew_ (B := W1.heap.size)) (Nat.le_refl _))
    have HZ2 := Lib.hid (Nat.le_trans HZ1.out (Nat.le_of_lt HLT.out))
    go_region_held3 (fun W => W.cell? ⟨w1.heap.size, 0, none⟩ = some (.int .i64 0) ∧ W.cell? ⟨w1.heap.size, 1, none⟩ = some (.string ⟨#[]⟩) ∧ W.cell? ⟨w1.heap.size, 2, none⟩ = some (.int .u64 0) ∧ W.cell? ⟨w1.heap.size, 3, none⟩ = some (.int .u64 0))
      (first | (with_reducible exact ⟨put4_cell_ x0 HNE.out, put4_cell_ x1 HNE.out, put4_cell_ x2 HNE.out, put4_cell_ x3 HNE.out⟩) | (with_reducible exact ⟨x0, x1, x2, x3⟩) | (exact ⟨p0, p1, p2, p3⟩) | fail)
      (first
        | (go_at_call 52; refine (CN.out _ HD.out).mono ?_; rintro e w2 ⟨rfl, hb2⟩; have hb2' : Below W1.heap.size W1 w2 := Below.drew_.trans hb2; have x0 := (hb2'.cell (p := ⟨w1.heap.size, 0, none⟩) HLT.out).trans p0; have x1 := (hb2'.cell (p := ⟨w1.heap.size, 1, none⟩) HLT.out).trans p1; have x2 := (hb2'.cell (p := ⟨w1.heap.size, 2, none⟩) HLT.out).trans p2; have x3 := (hb2'.cell (p := ⟨w1.heap.size, 3, none⟩) HLT.out).trans p3; have hb3 := HB2.out.trans (hb2'.mono HZ2.out); have BX := Lib.hid hb2'; obtain ⟨⟨z0, z1, z2, z3⟩, f0, f1, f2, f3⟩ := zeroE (g := w.heap.size + 1) (by simp) hb3; have B3 := Lib.hid hb3; clear hb2 hb2' hb3)
        | fail)
    go_wp2_with fail
    refine bodyPost_ret (v := .tuple #[epdV 0 ⟨#[]⟩ 0 0, .int .i64 40]) (by simp [results, Tryz.results36, go_sem, z0, z1, z2, z3, epdV]) rfl ⟨below_put4 (HB0.out.trans (B3.out.mono (Nat.le_add_right _ 2))) (Nat.le_succ _), .inr ⟨H.out, rfl⟩⟩
end Go.Proofs.YtanbjifdcplmnaaGreatDoor
