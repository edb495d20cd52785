/- EidApart of layer 4's statements, walked. -/
import Derived.Test.YtlncacfflalacaaDoorEidW1
import Derived.Test.YtlncacfflalacaaDoorEidW0
import Derived.StillTailTactics
namespace Go.Proofs.YtlncacfflalacaaDoor
open Go.RowKit
open Go.Lib (decDigits)

theorem strL_inj {a b : List UInt8} (h : strL a = strL b) : a = b := by rw [← strL_list a, h, strL_list]
theorem strL_eq (a b : List UInt8) : ((strL a).toList == (strL b).toList) = (a == b) := by rw [Lib.toList_data, Lib.toList_data, strL_list, strL_list]

theorem takeU {P : Program} {md : Region.Mode} {l : List Oper} {Q : Exit → Act → World → Prop} {S : World → Prop} {i : Nat} {oi : Oper} {fuel : Nat} {listed : Array Bool} {a : Act} {w : World} (hi : l[i]? = some oi)
    (hs : Region.noSelect l.toArray = true) (hf : Region.free md l.toArray listed i = true) (hr : (Region.ready md l.toArray listed).contains i = true)
    (hQ : ∀ c a w, Q (.panic c) (a.put oi.dst undef) w → Q (.panic c) a w) (hy : Region.wanted oi (yielded l.toArray a.tmps) = false) (hS : S w)
    (h : wpAnyH P md l.toArray Q S fuel (listed.setIfInBounds i true) (a.put oi.dst undef) w) : wpAnyH P md l.toArray Q S (fuel + 1) listed a w :=
  wpAnyH_take (oi := oi) (v := undef) (by simpa using hi) hs hf hr hQ (Or.inr ⟨hy, rfl⟩) hS h

theorem takeW {P : Program} {md : Region.Mode} {l : List Oper} {Q : Exit → Act → World → Prop} {S : World → Prop} {i : Nat} {oi : Oper} {v : Value} {fuel : Nat} {listed : Array Bool} {a : Act} {w : World} (hi : l[i]? = some oi)
    (hs : Region.noSelect l.toArray = true) (hf : Region.free md l.toArray listed i = true) (hr : (Region.ready md l.toArray listed).contains i = true)
    (hQ : ∀ c a w, Q (.panic c) (a.put oi.dst v) w → Q (.panic c) a w) (hw : Region.wanted oi (yielded l.toArray a.tmps) = true) (hy : ∀ w, S w → (execOp a.eval oi).run P w = .ok (.value v) w) (hS : S w)
    (h : wpAnyH P md l.toArray Q S fuel (listed.setIfInBounds i true) (a.put oi.dst v) w) : wpAnyH P md l.toArray Q S (fuel + 1) listed a w :=
  wpAnyH_take (oi := oi) (v := v) (by simpa using hi) hs hf hr hQ (Or.inl ⟨hw, hy⟩) hS h

set_option maxRecDepth 100000 in
set_option maxHeartbeats 3000000 in
theorem eidApart_walk (sc : Int) (s : ByteArray) (n v : Nat) (sc' : Int) (s' : ByteArray) (n' v' : Nat) (w : World) (A : Snt) (hs : s.size ≤ 140737488355328) (hn : n < 18446744073709551616) (hv : v < 18446744073709551616) (hs' : s'.size ≤ 140737488355328) (hn' : n' < 18446744073709551616) (hv' : v' < 18446744073709551616) (hA : Lds A w) :
    Calls Tryd.prog 5 #[epdV sc s n v, epdV sc' s' n' v'] w fun e w' => e = .returned (.bool true) ∧ Below w.heap.size w w' := by
  have CC := Lib.hid (fun W (hW : Lds A W) => ccheck_any A sc s n v W hW hs)
  have CC' := Lib.hid (fun W (hW : Lds A W) => ccheck_any A sc' s' n' v' W hW hs')
  have CT := Lib.hid (fun W (hW : Lds A W) => text_any A sc s n v W hW hs hn hv)
  have CT' := Lib.hid (fun W (hW : Lds A W) => text_any A sc' s' n' v' W hW hs' hn' hv')
  have CN := Lib.hid (fun W (hW : Lds A W) => node_any A sc s n v W hW hs hn)
  have CN' := Lib.hid (fun W (hW : Lds A W) => node_any A sc' s' n' v' W hW hs' hn')
  have CH := Lib.hid (fun W (hW : Lds A W) => heads_any A W hW)
  have HA1 := Lib.hid ((hA.alloc (.cells #[.int .i64 sc, .string s, .int .u64 (n : Int), .int .u64 (v : Int)] 25)).alloc (.cells #[.int .i64 sc', .string s', .int .u64 (n' : Int), .int .u64 (v' : Int)] 25))
  have HB0 : Hid (Below w.heap.size w ((w.alloc (.cells #[.int .i64 sc, .string s, .int .u64 (n : Int), .int .u64 (v : Int)] 25)).alloc (.cells #[.int .i64 sc', .string s', .int .u64 (n' : Int), .int .u64 (v' : Int)] 25))) := ((Below.refl _ _).alloc (Nat.le_refl _) _).alloc (le_alloc _ _) _
  have BX : Hid (∀ W, Below (w.heap.size + 2) ((w.alloc (.cells #[.int .i64 sc, .string s, .int .u64 (n : Int), .int .u64 (v : Int)] 25)).alloc (.cells #[.int .i64 sc', .string s', .int .u64 (n' : Int), .int .u64 (v' : Int)] 25)) W →
      (W.cell? ⟨w.heap.size, 0, none⟩ = some (.int .i64 sc) ∧ W.cell? ⟨w.heap.size, 1, none⟩ = some (.string s) ∧ W.cell? ⟨w.heap.size, 2, none⟩ = some (.int .u64 (n : Int)) ∧ W.cell? ⟨w.heap.size, 3, none⟩ = some (.int .u64 (v : Int))) ∧
      (W.cell? ⟨w.heap.size + 1, 0, none⟩ = some (.int .i64 sc') ∧ W.cell? ⟨w.heap.size + 1, 1, none⟩ = some (.string s') ∧ W.cell? ⟨w.heap.size + 1, 2, none⟩ = some (.int .u64 (n' : Int)) ∧ W.cell? ⟨w.heap.size + 1, 3, none⟩ = some (.int .u64 (v' : Int)))) := fun W hb => by
    have hs1 : (w.alloc (.cells #[.int .i64 sc, .string s, .int .u64 (n : Int), .int .u64 (v : Int)] 25)).heap.size = w.heap.size + 1 := by simp
    refine ⟨box_cells4 ((((Below.refl (w.alloc (.cells #[.int .i64 sc, .string s, .int .u64 (n : Int), .int .u64 (v : Int)] 25)).heap.size _).alloc (Nat.le_refl _) _)).trans (hb.mono (by rw [hs1]; omega))), ?_⟩
    have h := box_cells4 (hb.mono (show ((w.alloc (.cells #[.int .i64 sc, .string s, .int .u64 (n : Int), .int .u64 (v : Int)] 25)).alloc (.cells #[.int .i64 sc', .string s', .int .u64 (n' : Int), .int .u64 (v' : Int)] 25)).heap.size ≤ w.heap.size + 2 by simp))
    rw [hs1] at h
    exact h
  have hz : ((w.alloc (.cells #[.int .i64 sc, .string s, .int .u64 (n : Int), .int .u64 (v : Int)] 25)).alloc (.cells #[.int .i64 sc', .string s', .int .u64 (n' : Int), .int .u64 (v' : Int)] 25)).heap.size = w.heap.size + 2 := by simp
  have HZ := Lib.hid hz
  clear hA hz
  cases hc : checkB (ep sc s n v) with
  | false =>
    rw [hc] at CC
    clear hc
    unfold epdV at *
    go_enter Tryd.func5, Tryd.ntmps5
    go_wp2_with fail
    refine (CC.out _ HA1.out).mono ?_
    rintro e w1 ⟨rfl, hb⟩
    have HL1 := Lib.hid (HA1.out.below hb (Nat.le_refl _))
    have HX1 := Lib.hid (HB0.out.trans (hb.mono HB0.out.size))
    clear hb
    go_wp2_with fail
    refine (CH.out _ HL1.out).mono ?_
    rintro e w2 ⟨rfl, hb⟩
    have HX2 := Lib.hid (HX1.out.trans (hb.mono HX1.out.size))
    clear hb
    go_wp2_with fail
    go_ret
    exact ⟨rfl, HX2.out⟩
  | true =>
  rw [hc] at CC
  have hab1 : w.heap.size < w.heap.size + 2 := by omega
  have hab2 : w.heap.size + 1 < w.heap.size + 2 := by omega
  cases hc' : checkB (ep sc' s' n' v') with
  | false =>
    rw [hc'] at CC'
    clear hc hc'
    unfold epdV at *
    go_enter Tryd.func5, Tryd.ntmps5
    go_wp2_with fail
    refine (CC.out _ HA1.out).mono ?_
    rintro e w1 ⟨rfl, hb⟩
    have HL1 := Lib.hid (HA1.out.below hb (Nat.le_refl _))
    obtain ⟨⟨x0, x1, x2, x3⟩, y0, y1, y2, y3⟩ := BX.out w1 (hb.mono (Nat.le_of_eq HZ.out.symm))
    have HX1 := Lib.hid (HB0.out.trans (hb.mono HB0.out.size))
    clear hb
    go_wp2_with fail
    refine (CC'.out _ HL1.out).mono ?_
    rintro e w2 ⟨rfl, hb⟩
    have HL2 := Lib.hid (HL1.out.below hb (Nat.le_refl _))
    have HX2 := Lib.hid (HX1.out.trans (hb.mono HX1.out.size))
    clear hb x0 x1 x2 x3 y0 y1 y2 y3
    go_wp2_with fail
    refine (CH.out _ HL2.out).mono ?_
    rintro e w3 ⟨rfl, hb⟩
    have HX3 := Lib.hid (HX2.out.trans (hb.mono HX2.out.size))
    clear hb
    go_wp2_with fail
    go_ret
    exact ⟨rfl, HX3.out⟩
  | true =>
  rw [hc'] at CC'
  have hiff : (textE (ep sc s n v) == textE (ep sc' s' n' v')) = true ↔ (sc = sc' ∧ s = s' ∧ n = n' ∧ v = v') := by
    rw [beq_iff_eq]
    constructor
    · intro h; exact ep_inj (text_inj hc hc' h)
    · rintro ⟨rfl, rfl, rfl, rfl⟩; rfl
  have hniff : sc = 2 → sc' = 2 → ((nodeE (ep sc s n v) == nodeE (ep sc' s' n' v')) = true ↔ n = n') := fun h1 h2 => by
    rw [beq_iff_eq]
    exact node_ipn_iff hc hc' h1 h2
  have hiff2 : (textE (ep sc s n v) == textE (ep sc' s' n' v')) = true ↔ (sc = sc' ∧ s = s' ∧ (n : Int) = (n' : Int) ∧ (v : Int) = (v' : Int)) := by
    rw [hiff]
    constructor
    · rintro ⟨a, b, c, d⟩; exact ⟨a, b, by omega, by omega⟩
    · rintro ⟨a, b, c, d⟩; exact ⟨a, b, by omega, by omega⟩
  have qe := fun W => eql_eid sc sc' s s' (n : Int) (n' : Int) (v : Int) (v' : Int) _ hiff2 W
  have HIFF := Lib.hid hiff
  have HNIFF := Lib.hid hniff
  have hTT := strL_eq (textE (ep sc s n v)) (textE (ep sc' s' n' v'))
  have hNN := strL_eq (nodeE (ep sc s n v)) (nodeE (ep sc' s' n' v'))
  generalize (textE (ep sc s n v) == textE (ep sc' s' n' v')) = bt at *
  generalize (nodeE (ep sc s n v) == nodeE (ep sc' s' n' v')) = bn at *
  generalize strL (textE (ep sc s n v)) = T at *
  generalize strL (textE (ep sc' s' n' v')) = T' at *
  generalize strL (nodeE (ep sc s n v)) = N at *
  generalize strL (nodeE (ep sc' s' n' v')) = N' at *
  clear hc hc' hiff hiff2 hniff
  unfold epdV at *
  go_enter Tryd.func5, Tryd.ntmps5
  go_wp2_with fail
  refine (CC.out _ HA1.out).mono ?_
  rintro e w1 ⟨rfl, hb⟩
  have HL1 := Lib.hid (HA1.out.below hb (Nat.le_refl _))
  have hb1 := hb.mono (Nat.le_of_eq HZ.out.symm)
  obtain ⟨⟨x0, x1, x2, x3⟩, y0, y1, y2, y3⟩ := BX.out w1 hb1
  have HX1 := Lib.hid hb1
  clear hb hb1
  go_wp2_with fail
  refine (CC'.out _ HL1.out).mono ?_
  rintro e w2 ⟨rfl, hb⟩
  have HL2 := Lib.hid (HL1.out.below hb (Nat.le_refl _))
  have hz1 : w.heap.size + 2 ≤ w1.heap.size := by have h := HX1.out.size; rw [HZ.out] at h; exact h
  have hb2 := HX1.out.trans (hb.mono hz1)
  clear x0 x1 x2 x3 y0 y1 y2 y3
  obtain ⟨⟨x0, x1, x2, x3⟩, y0, y1, y2, y3⟩ := BX.out w2 hb2
  have HX2 := Lib.hid hb2
  have HZ2 : Hid (w.heap.size + 2 ≤ w2.heap.size) := Nat.le_trans hz1 hb.size
  clear hb hb2 hz1
  go_wp2_with fail
  have HLT : Hid (w.heap.size < w2.heap.size ∧ w.heap.size + 1 < w2.heap.size) := by have h := HZ2.out; exact ⟨by omega, by omega⟩
  go_region_held3 (fun W => W.cell? ⟨w.heap.size, 0, none⟩ = some (.int .i64 sc) ∧ W.cell? ⟨w.heap.size, 1, none⟩ = some (.string s) ∧ W.cell? ⟨w.heap.size, 2, none⟩ = some (.int .u64 (n : Int)) ∧ W.cell? ⟨w.heap.size, 3, none⟩ = some (.int .u64 (v : Int)) ∧ W.cell? ⟨w.heap.size + 1, 0, none⟩ = some (.int .i64 sc') ∧ W.cell? ⟨w.heap.size + 1, 1, none⟩ = some (.string s') ∧ W.cell? ⟨w.heap.size + 1, 2, none⟩ = some (.int .u64 (n' : Int)) ∧ W.cell? ⟨w.heap.size + 1, 3, none⟩ = some (.int .u64 (v' : Int)))
    (first | (with_reducible exact ⟨q0, q1, q2, q3, q4, q5, q6, q7⟩) | (with_reducible exact ⟨p0, p1, p2, p3, p4, p5, p6, p7⟩) | (exact ⟨x0, x1, x2, x3, y0, y1, y2, y3⟩) | fail)
    (first
      | (go_at_call 9; have _g := p0; clear _g; refine (CT'.out _ HL3.out).mono ?_; rintro e w4 ⟨rfl, hb⟩; have HL4 := Lib.hid (HL3.out.below hb (Nat.le_refl _)); have hb4 := HX3.out.trans (hb.mono HZ3.out); obtain ⟨⟨q0, q1, q2, q3⟩, q4, q5, q6, q7⟩ := BX.out w4 hb4; have HX4 := Lib.hid hb4; have HZ4 := Lib.hid (Nat.le_trans HZ3.out hb.size); clear hb hb4)
      | (go_at_call 9; refine (CT.out _ (HL2.out.below (Below.drew_ (B := w2.heap.size)) (Nat.le_refl _))).mono ?_; rintro e w3 ⟨rfl, hb⟩; have HL3 := Lib.hid ((HL2.out.below (Below.drew_ (B := w2.heap.size)) (Nat.le_refl _)).below hb (Nat.le_refl _)); have hb3 := HX2.out.trans ((Below.drew_ (B := w2.heap.size)).trans hb |>.mono HZ2.out); obtain ⟨⟨p0, p1, p2, p3⟩, p4, p5, p6, p7⟩ := BX.out w3 hb3; have HX3 := Lib.hid hb3; have HZ3 : Hid (w.heap.size + 2 ≤ w3.heap.size) := Nat.le_trans HZ2.out hb.size; clear hb hb3)
      | fail)
  by_cases h2 : sc = 2
  case neg =>
    have hb2 : (sc != 2) = true := by simp [h2]
    clear HNIFF HIFF qe hTT hNN
    go_wp2_with fail
    refine wp_region_held_drew (S := fun W => W.cell? ⟨w.heap.size, 0, none⟩ = some (.int .i64 sc) ∧ W.cell? ⟨w.heap.size + 1, 0, none⟩ = some (.int .i64 sc')) (by kernel_rfl) ⟨q0, q4⟩ (fun hHeld => ?_)
    refine takeW (i := 0) (v := ?v0) rfl (by kernel_rfl) (by kernel_rfl) (by kernel_rfl) (fun _ _ _ h => h) (by rfl) ?hy0 (by assumption) ?rest0
    case hy0 => (intro w hSw; (try dsimp only at hSw); go_simp; try with_reducible rfl)
    try simp only [Act.put, List.setIfInBounds_toArray, List.set_cons_zero, List.set_cons_succ]
    refine takeW (i := 1) (v := ?v1) rfl (by kernel_rfl) (by kernel_rfl) (by kernel_rfl) (fun _ _ _ h => h) (by rfl) ?hy1 (by assumption) ?rest1
    case hy1 => (intro w hSw; (try dsimp only at hSw); go_simp; try with_reducible rfl)
    try simp only [Act.put, List.setIfInBounds_toArray, List.set_cons_zero, List.set_cons_succ]
    refine takeW (i := 2) (v := ?v2) rfl (by kernel_rfl) (by kernel_rfl) (by kernel_rfl) (fun _ _ _ h => h) (by rfl) ?hy2 (by assumption) ?rest2
    case hy2 => (intro w hSw; (try dsimp only at hSw); go_simp; try with_reducible rfl)
    try simp only [Act.put, List.setIfInBounds_toArray, List.set_cons_zero, List.set_cons_succ]
    refine takeW (i := 3) (v := ?v3) rfl (by kernel_rfl) (by kernel_rfl) (by kernel_rfl) (fun _ _ _ h => h) (by rfl) ?hy3 (by assumption) ?rest3
    case hy3 => (intro w hSw; (try dsimp only at hSw); go_simp; try with_reducible rfl)
    try simp only [Act.put, List.setIfInBounds_toArray, List.set_cons_zero, List.set_cons_succ]
    refine takeU (i := 4) rfl (by kernel_rfl) (by kernel_rfl) (by kernel_rfl) (fun _ _ _ h => h) (by rfl) (by assumption) ?_
    try simp only [Act.put, List.setIfInBounds_toArray, List.set_cons_zero, List.set_cons_succ]
    refine takeU (i := 5) rfl (by kernel_rfl) (by kernel_rfl) (by kernel_rfl) (fun _ _ _ h => h) (by rfl) (by assumption) ?_
    try simp only [Act.put, List.setIfInBounds_toArray, List.set_cons_zero, List.set_cons_succ]
    refine takeU (i := 6) rfl (by kernel_rfl) (by kernel_rfl) (by kernel_rfl) (fun _ _ _ h => h) (by rfl) (by assumption) ?_
    try simp only [Act.put, List.setIfInBounds_toArray, List.set_cons_zero, List.set_cons_succ]
    refine takeW (i := 7) (v := ?v7) rfl (by kernel_rfl) (by kernel_rfl) (by kernel_rfl) (fun _ _ _ h => h) (by rfl) ?hy7 (by assumption) ?rest7
    case hy7 => (intro w hSw; (try dsimp only at hSw); go_simp; try with_reducible rfl)
    try simp only [Act.put, List.setIfInBounds_toArray, List.set_cons_zero, List.set_cons_succ]
    refine takeW (i := 8) (v := ?v8) rfl (by kernel_rfl) (by kernel_rfl) (by kernel_rfl) (fun _ _ _ h => h) (by rfl) ?hy8 (by assumption) ?rest8
    case hy8 => (intro w hSw; (try dsimp only at hSw); go_simp; try with_reducible rfl)
    try simp only [Act.put, List.setIfInBounds_toArray, List.set_cons_zero, List.set_cons_succ]
    refine takeU (i := 9) rfl (by kernel_rfl) (by kernel_rfl) (by kernel_rfl) (fun _ _ _ h => h) (by rfl) (by assumption) ?_
    try simp only [Act.put, List.setIfInBounds_toArray, List.set_cons_zero, List.set_cons_succ]
    refine takeU (i := 10) rfl (by kernel_rfl) (by kernel_rfl) (by kernel_rfl) (fun _ _ _ h => h) (by rfl) (by assumption) ?_
    try simp only [Act.put, List.setIfInBounds_toArray, List.set_cons_zero, List.set_cons_succ]
    refine takeU (i := 11) rfl (by kernel_rfl) (by kernel_rfl) (by kernel_rfl) (fun _ _ _ h => h) (by rfl) (by assumption) ?_
    try simp only [Act.put, List.setIfInBounds_toArray, List.set_cons_zero, List.set_cons_succ]
    refine takeU (i := 12) rfl (by kernel_rfl) (by kernel_rfl) (by kernel_rfl) (fun _ _ _ h => h) (by rfl) (by assumption) ?_
    try simp only [Act.put, List.setIfInBounds_toArray, List.set_cons_zero, List.set_cons_succ]
    refine takeU (i := 13) rfl (by kernel_rfl) (by kernel_rfl) (by kernel_rfl) (fun _ _ _ h => h) (by rfl) (by assumption) ?_
    try simp only [Act.put, List.setIfInBounds_toArray, List.set_cons_zero, List.set_cons_succ]
    refine takeU (i := 14) rfl (by kernel_rfl) (by kernel_rfl) (by kernel_rfl) (fun _ _ _ h => h) (by rfl) (by assumption) ?_
    try simp only [Act.put, List.setIfInBounds_toArray, List.set_cons_zero, List.set_cons_succ]
    refine takeU (i := 15) rfl (by kernel_rfl) (by kernel_rfl) (by kernel_rfl) (fun _ _ _ h => h) (by rfl) (by assumption) ?_
    try simp only [Act.put, List.setIfInBounds_toArray, List.set_cons_zero, List.set_cons_succ]
    refine takeU (i := 16) rfl (by kernel_rfl) (by kernel_rfl) (by kernel_rfl) (fun _ _ _ h => h) (by rfl) (by assumption) ?_
    try simp only [Act.put, List.setIfInBounds_toArray, List.set_cons_zero, List.set_cons_succ]
    refine takeU (i := 17) rfl (by kernel_rfl) (by kernel_rfl) (by kernel_rfl) (fun _ _ _ h => h) (by rfl) (by assumption) ?_
    try simp only [Act.put, List.setIfInBounds_toArray, List.set_cons_zero, List.set_cons_succ]
    refine takeU (i := 18) rfl (by kernel_rfl) (by kernel_rfl) (by kernel_rfl) (fun _ _ _ h => h) (by rfl) (by assumption) ?_
    try simp only [Act.put, List.setIfInBounds_toArray, List.set_cons_zero, List.set_cons_succ]
    refine takeU (i := 19) rfl (by kernel_rfl) (by kernel_rfl) (by kernel_rfl) (fun _ _ _ h => h) (by rfl) (by assumption) ?_
    try simp only [Act.put, List.setIfInBounds_toArray, List.set_cons_zero, List.set_cons_succ]
    refine takeW (i := 20) (v := ?v20) rfl (by kernel_rfl) (by kernel_rfl) (by kernel_rfl) (fun _ _ _ h => h) (by rfl) ?hy20 (by assumption) ?rest20
    case hy20 => (intro w hSw; (try dsimp only at hSw); go_simp; try with_reducible rfl)
    try simp only [Act.put, List.setIfInBounds_toArray, List.set_cons_zero, List.set_cons_succ]
    refine takeW (i := 21) (v := ?v21) rfl (by kernel_rfl) (by kernel_rfl) (by kernel_rfl) (fun _ _ _ h => h) (by rfl) ?hy21 (by assumption) ?rest21
    case hy21 => (intro w hSw; (try dsimp only at hSw); go_simp; try with_reducible rfl)
    try simp only [Act.put, List.setIfInBounds_toArray, List.set_cons_zero, List.set_cons_succ]
    refine wpAnyH_ready (rs := [22]) (by kernel_rfl) (by simp) ?_
    refine AllReadyH.cons rfl (fun K hK => ?_) AllReadyH.nil
    go_simp
    have HL5 := Lib.hid (HL4.out.below (Below.drew_ (B := w4.heap.size)) (Nat.le_refl _))
    refine (CH.out _ HL5.out).mono ?_
    rintro e w6 ⟨rfl, hb⟩
    have HD := Lib.hid (Below.drew_ (B := w4.heap.size) (w := w4))
    have hb6 := HX4.out.trans ((Below.drew_ (B := w4.heap.size)).trans hb |>.mono HZ4.out)
    obtain ⟨⟨r0, _, _, _⟩, r4, _, _, _⟩ := BX.out w6 hb6
    have HX6 := Lib.hid ((HB0.out.trans (HX4.out.mono (Nat.le_add_right _ 2))).trans ((HD.out.trans (hb.mono HD.out.size)).mono (Nat.le_trans (Nat.le_add_right _ 2) HZ4.out)))
    clear hb hb6
    go_simp
    refine hK.out _ _ ⟨r0, r4⟩ (fun hHeld => ?_)
    try simp only [Act.put, List.setIfInBounds_toArray, List.set_cons_zero, List.set_cons_succ]
    clear hK K
    refine takeW (i := 23) (v := ?v23) rfl (by kernel_rfl) (by kernel_rfl) (by kernel_rfl) (fun _ _ _ h => h) (by rfl) ?hy23 (by assumption) ?rest23
    case hy23 => (intro w hSw; (try dsimp only at hSw); go_simp; try with_reducible rfl)
    try simp only [Act.put, List.setIfInBounds_toArray, List.set_cons_zero, List.set_cons_succ]
    refine takeW (i := 24) (v := ?v24) rfl (by kernel_rfl) (by kernel_rfl) (by kernel_rfl) (fun _ _ _ h => h) (by rfl) ?hy24 (by assumption) ?rest24
    case hy24 => (intro w hSw; (try dsimp only at hSw); go_simp; try with_reducible rfl)
    try simp only [Act.put, List.setIfInBounds_toArray, List.set_cons_zero, List.set_cons_succ]
    refine wpAnyH_done (by kernel_rfl) ?_ _
    go_wp2_with fail
    go_ret
    exact ⟨rfl, HX6.out⟩
  subst h2
  by_cases h2 : sc' = 2
  case neg =>
    have hb2 : (sc' != 2) = true := by simp [h2]
    clear HNIFF HIFF qe hTT hNN
    go_wp2_with fail
    refine wp_region_held_drew (S := fun W => W.cell? ⟨w.heap.size, 0, none⟩ = some (.int .i64 2) ∧ W.cell? ⟨w.heap.size + 1, 0, none⟩ = some (.int .i64 sc')) (by kernel_rfl) ⟨q0, q4⟩ (fun hHeld => ?_)
    refine takeW (i := 0) (v := ?vb0) rfl (by kernel_rfl) (by kernel_rfl) (by kernel_rfl) (fun _ _ _ h => h) (by rfl) ?hyb0 (by assumption) ?restb0
    case hyb0 => (intro w hSw; (try dsimp only at hSw); go_simp; try with_reducible rfl)
    try simp only [Act.put, List.setIfInBounds_toArray, List.set_cons_zero, List.set_cons_succ]
    refine takeW (i := 1) (v := ?vb1) rfl (by kernel_rfl) (by kernel_rfl) (by kernel_rfl) (fun _ _ _ h => h) (by rfl) ?hyb1 (by assumption) ?restb1
    case hyb1 => (intro w hSw; (try dsimp only at hSw); go_simp; try with_reducible rfl)
    try simp only [Act.put, List.setIfInBounds_toArray, List.set_cons_zero, List.set_cons_succ]
    refine takeW (i := 2) (v := ?vb2) rfl (by kernel_rfl) (by kernel_rfl) (by kernel_rfl) (fun _ _ _ h => h) (by rfl) ?hyb2 (by assumption) ?restb2
    case hyb2 => (intro w hSw; (try dsimp only at hSw); go_simp; try with_reducible rfl)
    try simp only [Act.put, List.setIfInBounds_toArray, List.set_cons_zero, List.set_cons_succ]
    refine takeW (i := 3) (v := ?vb3) rfl (by kernel_rfl) (by kernel_rfl) (by kernel_rfl) (fun _ _ _ h => h) (by rfl) ?hyb3 (by assumption) ?restb3
    case hyb3 => (intro w hSw; (try dsimp only at hSw); go_simp; try with_reducible rfl)
    try simp only [Act.put, List.setIfInBounds_toArray, List.set_cons_zero, List.set_cons_succ]
    refine takeW (i := 4) (v := ?vb4) rfl (by kernel_rfl) (by kernel_rfl) (by kernel_rfl) (fun _ _ _ h => h) (by rfl) ?hyb4 (by assumption) ?restb4
    case hyb4 => (intro w hSw; (try dsimp only at hSw); go_simp; try with_reducible rfl)
    try simp only [Act.put, List.setIfInBounds_toArray, List.set_cons_zero, List.set_cons_succ]
    refine takeW (i := 5) (v := ?vb5) rfl (by kernel_rfl) (by kernel_rfl) (by kernel_rfl) (fun _ _ _ h => h) (by rfl) ?hyb5 (by assumption) ?restb5
    case hyb5 => (intro w hSw; (try dsimp only at hSw); go_simp; try with_reducible rfl)
    try simp only [Act.put, List.setIfInBounds_toArray, List.set_cons_zero, List.set_cons_succ]
    refine takeW (i := 6) (v := ?vb6) rfl (by kernel_rfl) (by kernel_rfl) (by kernel_rfl) (fun _ _ _ h => h) (by rfl) ?hyb6 (by assumption) ?restb6
    case hyb6 => (intro w hSw; (try dsimp only at hSw); go_simp; try with_reducible rfl)
    try simp only [Act.put, List.setIfInBounds_toArray, List.set_cons_zero, List.set_cons_succ]
    refine takeW (i := 7) (v := ?vb7) rfl (by kernel_rfl) (by kernel_rfl) (by kernel_rfl) (fun _ _ _ h => h) (by rfl) ?hyb7 (by assumption) ?restb7
    case hyb7 => (intro w hSw; (try dsimp only at hSw); go_simp; try with_reducible rfl)
    try simp only [Act.put, List.setIfInBounds_toArray, List.set_cons_zero, List.set_cons_succ]
    refine takeW (i := 8) (v := ?vb8) rfl (by kernel_rfl) (by kernel_rfl) (by kernel_rfl) (fun _ _ _ h => h) (by rfl) ?hyb8 (by assumption) ?restb8
    case hyb8 => (intro w hSw; (try dsimp only at hSw); go_simp; try with_reducible rfl)
    try simp only [Act.put, List.setIfInBounds_toArray, List.set_cons_zero, List.set_cons_succ]
    refine takeU (i := 9) rfl (by kernel_rfl) (by kernel_rfl) (by kernel_rfl) (fun _ _ _ h => h) (by rfl) (by assumption) ?_
    try simp only [Act.put, List.setIfInBounds_toArray, List.set_cons_zero, List.set_cons_succ]
    refine takeU (i := 10) rfl (by kernel_rfl) (by kernel_rfl) (by kernel_rfl) (fun _ _ _ h => h) (by rfl) (by assumption) ?_
    try simp only [Act.put, List.setIfInBounds_toArray, List.set_cons_zero, List.set_cons_succ]
    refine takeU (i := 11) rfl (by kernel_rfl) (by kernel_rfl) (by kernel_rfl) (fun _ _ _ h => h) (by rfl) (by assumption) ?_
    try simp only [Act.put, List.setIfInBounds_toArray, List.set_cons_zero, List.set_cons_succ]
    refine takeU (i := 12) rfl (by kernel_rfl) (by kernel_rfl) (by kernel_rfl) (fun _ _ _ h => h) (by rfl) (by assumption) ?_
    try simp only [Act.put, List.setIfInBounds_toArray, List.set_cons_zero, List.set_cons_succ]
    refine takeU (i := 13) rfl (by kernel_rfl) (by kernel_rfl) (by kernel_rfl) (fun _ _ _ h => h) (by rfl) (by assumption) ?_
    try simp only [Act.put, List.setIfInBounds_toArray, List.set_cons_zero, List.set_cons_succ]
    refine takeU (i := 14) rfl (by kernel_rfl) (by kernel_rfl) (by kernel_rfl) (fun _ _ _ h => h) (by rfl) (by assumption) ?_
    try simp only [Act.put, List.setIfInBounds_toArray, List.set_cons_zero, List.set_cons_succ]
    refine takeU (i := 15) rfl (by kernel_rfl) (by kernel_rfl) (by kernel_rfl) (fun _ _ _ h => h) (by rfl) (by assumption) ?_
    try simp only [Act.put, List.setIfInBounds_toArray, List.set_cons_zero, List.set_cons_succ]
    refine takeU (i := 16) rfl (by kernel_rfl) (by kernel_rfl) (by kernel_rfl) (fun _ _ _ h => h) (by rfl) (by assumption) ?_
    try simp only [Act.put, List.setIfInBounds_toArray, List.set_cons_zero, List.set_cons_succ]
    refine takeU (i := 17) rfl (by kernel_rfl) (by kernel_rfl) (by kernel_rfl) (fun _ _ _ h => h) (by rfl) (by assumption) ?_
    try simp only [Act.put, List.setIfInBounds_toArray, List.set_cons_zero, List.set_cons_succ]
    refine takeU (i := 18) rfl (by kernel_rfl) (by kernel_rfl) (by kernel_rfl) (fun _ _ _ h => h) (by rfl) (by assumption) ?_
    try simp only [Act.put, List.setIfInBounds_toArray, List.set_cons_zero, List.set_cons_succ]
    refine takeU (i := 19) rfl (by kernel_rfl) (by kernel_rfl) (by kernel_rfl) (fun _ _ _ h => h) (by rfl) (by assumption) ?_
    try simp only [Act.put, List.setIfInBounds_toArray, List.set_cons_zero, List.set_cons_succ]
    refine takeW (i := 20) (v := ?vb20) rfl (by kernel_rfl) (by kernel_rfl) (by kernel_rfl) (fun _ _ _ h => h) (by rfl) ?hyb20 (by assumption) ?restb20
    case hyb20 => (intro w hSw; (try dsimp only at hSw); go_simp; try with_reducible rfl)
    try simp only [Act.put, List.setIfInBounds_toArray, List.set_cons_zero, List.set_cons_succ]
    refine takeW (i := 21) (v := ?vb21) rfl (by kernel_rfl) (by kernel_rfl) (by kernel_rfl) (fun _ _ _ h => h) (by rfl) ?hyb21 (by assumption) ?restb21
    case hyb21 => (intro w hSw; (try dsimp only at hSw); go_simp; try with_reducible rfl)
    try simp only [Act.put, List.setIfInBounds_toArray, List.set_cons_zero, List.set_cons_succ]
    refine wpAnyH_ready (rs := [22]) (by kernel_rfl) (by simp) ?_
    refine AllReadyH.cons rfl (fun K hK => ?_) AllReadyH.nil
    go_simp
    have HL5 := Lib.hid (HL4.out.below (Below.drew_ (B := w4.heap.size)) (Nat.le_refl _))
    refine (CH.out _ HL5.out).mono ?_
    rintro e w6 ⟨rfl, hb⟩
    have HD := Lib.hid (Below.drew_ (B := w4.heap.size) (w := w4))
    have hb6 := HX4.out.trans ((Below.drew_ (B := w4.heap.size)).trans hb |>.mono HZ4.out)
    obtain ⟨⟨r0, _, _, _⟩, r4, _, _, _⟩ := BX.out w6 hb6
    have HX6 := Lib.hid ((HB0.out.trans (HX4.out.mono (Nat.le_add_right _ 2))).trans ((HD.out.trans (hb.mono HD.out.size)).mono (Nat.le_trans (Nat.le_add_right _ 2) HZ4.out)))
    clear hb hb6
    go_simp
    refine hK.out _ _ ⟨r0, r4⟩ (fun hHeld => ?_)
    try simp only [Act.put, List.setIfInBounds_toArray, List.set_cons_zero, List.set_cons_succ]
    clear hK K
    refine takeW (i := 23) (v := ?vb23) rfl (by kernel_rfl) (by kernel_rfl) (by kernel_rfl) (fun _ _ _ h => h) (by rfl) ?hyb23 (by assumption) ?restb23
    case hyb23 => (intro w hSw; (try dsimp only at hSw); go_simp; try with_reducible rfl)
    try simp only [Act.put, List.setIfInBounds_toArray, List.set_cons_zero, List.set_cons_succ]
    refine takeW (i := 24) (v := ?vb24) rfl (by kernel_rfl) (by kernel_rfl) (by kernel_rfl) (fun _ _ _ h => h) (by rfl) ?hyb24 (by assumption) ?restb24
    case hyb24 => (intro w hSw; (try dsimp only at hSw); go_simp; try with_reducible rfl)
    try simp only [Act.put, List.setIfInBounds_toArray, List.set_cons_zero, List.set_cons_succ]
    refine wpAnyH_done (by kernel_rfl) ?_ _
    go_wp2_with fail
    go_ret
    exact ⟨rfl, HX6.out⟩
  subst h2
  have hbn : bn = true ↔ (n : Int) = (n' : Int) := by
    rw [HNIFF.out rfl rfl]
    omega
  have hE : ((n : Int) == (n' : Int)) = bn := by
    rw [Bool.eq_iff_iff, beq_iff_eq]
    exact hbn.symm
  clear HNIFF HIFF qe hTT hbn
  go_wp2_with fail
  go_region_held3 (fun W => W.cell? ⟨w.heap.size, 0, none⟩ = some (.int .i64 2) ∧ W.cell? ⟨w.heap.size, 1, none⟩ = some (.string s) ∧ W.cell? ⟨w.heap.size, 2, none⟩ = some (.int .u64 (n : Int)) ∧ W.cell? ⟨w.heap.size, 3, none⟩ = some (.int .u64 (v : Int)) ∧ W.cell? ⟨w.heap.size + 1, 0, none⟩ = some (.int .i64 2) ∧ W.cell? ⟨w.heap.size + 1, 1, none⟩ = some (.string s') ∧ W.cell? ⟨w.heap.size + 1, 2, none⟩ = some (.int .u64 (n' : Int)) ∧ W.cell? ⟨w.heap.size + 1, 3, none⟩ = some (.int .u64 (v' : Int)))
    (first | (with_reducible exact ⟨u0, u1, u2, u3, u4, u5, u6, u7⟩) | (with_reducible exact ⟨t0, t1, t2, t3, t4, t5, t6, t7⟩) | (with_reducible exact ⟨r0, r1, r2, r3, r4, r5, r6, r7⟩) | (exact ⟨q0, q1, q2, q3, q4, q5, q6, q7⟩) | fail)
    (first
      | (go_at_call 8; have _g := t0; clear _g; refine (CH.out _ HL6.out).mono ?_; rintro e w7 ⟨rfl, hb⟩; have hb7 := HX6.out.trans (hb.mono HZ6.out); obtain ⟨⟨u0, u1, u2, u3⟩, u4, u5, u6, u7⟩ := BX.out w7 hb7; have HX7 := Lib.hid (HB0.out.trans (hb7.mono (Nat.le_add_right _ 2))); clear hb hb7)
      | (go_at_call 7; have _g := r0; clear _g; refine (CN'.out _ HL5.out).mono ?_; rintro e w6 ⟨rfl, hb⟩; have HL6 := Lib.hid (HL5.out.below hb (Nat.le_refl _)); have hb6 := HX5.out.trans (hb.mono HZ5.out); obtain ⟨⟨t0, t1, t2, t3⟩, t4, t5, t6, t7⟩ := BX.out w6 hb6; have HX6 := Lib.hid hb6; have HZ6 := Lib.hid (Nat.le_trans HZ5.out hb.size); clear hb hb6)
      | (go_at_call 7; refine (CN.out _ (HL4.out.below (Below.drew_ (B := w4.heap.size)) (Nat.le_refl _))).mono ?_; rintro e w5 ⟨rfl, hb⟩; have HL5 := Lib.hid ((HL4.out.below (Below.drew_ (B := w4.heap.size)) (Nat.le_refl _)).below hb (Nat.le_refl _)); have hb5 := HX4.out.trans ((Below.drew_ (B := w4.heap.size)).trans hb |>.mono HZ4.out); obtain ⟨⟨r0, r1, r2, r3⟩, r4, r5, r6, r7⟩ := BX.out w5 hb5; have HX5 := Lib.hid hb5; have HZ5 : Hid (w.heap.size + 2 ≤ w5.heap.size) := Nat.le_trans HZ4.out hb.size; clear hb hb5)
      | fail)
  go_wp2_with fail
  go_ret
  exact ⟨rfl, HX7.out⟩
end Go.Proofs.YtlncacfflalacaaDoor
