/- The code of layer 14: sum, Frame, Size. -/
import Derived.Test.YtahgaogmcffglaaDoorJRecI
import Derived.Test.YtahgaogmcffglaaDoorJRecQ
import Derived.Test.YtahgaogmcffglaaDoorJWlM
import Derived.Laws.MakeOwn
import Derived.Lib.IfaceEq
namespace Go.Proofs.YtahgaogmcffglaaDoor
open Go.RowKit

/-- make of bytes with room behind them. -/
theorem wpList_makeB14 {P : Program} {ops : Array Oper} {rest : List Oper} {o : Oper} {a : Act} {w : World} {Q : Exit → Act → World → Prop} (hg : o.guard = none) (l c : Operand) (t : TypeId) (hop : o.op = Op.makeSlice t l c)
    (e : TypeId) (ht : P.underlying t = some (.slice e)) (hinfo : (P.info? e).map (fun i => (i.zero, i.size, i.bytes)) = some (some (.int .u8 0), 1, 1)) (C : Nat) (y : Int) (hl : a.eval l = .int .i64 0) (hc : a.eval c = .int .i64 y) (hy : y = (C : Int)) (hC : C ≤ 140737488355328)
    (h : ∀ w' : World, Ob w' w.heap.size e (.slice (some ⟨w.heap.size, 0, none⟩) 0 C) [] → Below w.heap.size w w' → wpList P ops Q rest (a.put o.dst (.slice (some ⟨w.heap.size, 0, none⟩) 0 C)) w') : wpList P ops Q (o :: rest) a w := by
  subst hy
  obtain ⟨i, hi, hzz⟩ := Option.map_eq_some_iff.1 hinfo
  simp only [Prod.mk.injEq] at hzz
  obtain ⟨hz, hs, hb⟩ := hzz
  have hr := run_make (P := P) w t e i (.int .u8 0) ht hi hz .i64 .i64 0 (C : Int) (by omega) (by omega) (by rw [hb]; omega) (by omega)
  simp only [Int.toNat_natCast, hs, Nat.mul_one] at hr
  refine wpList_plain hg fun K hK => ?_
  unfold Oper.wp
  simp [execOp, hop, hl, hc, hr, Result.andThen]
  refine hK _ _ (h _ ⟨?_, .inr ⟨w.heap.size, C, _, by simp, Nat.le_refl _, heap_alloc_new w _, by simp, by unfold maxLen; omega, by rw [size_madeCells, Nat.mul_one], ?_⟩⟩ ((Below.refl _ _).alloc (Nat.le_refl _) _))
  · simp
  · simp
theorem Rb.ob14 {w : World} {base b n : Nat} {t : TypeId} {l : List UInt8} (h : Rb w b t n l) (hl : l.length = n) (hb : base ≤ b) (hm : n ≤ maxLen) : Ob w base t (.slice (some ⟨b, 0, none⟩) n n) l := by
  obtain ⟨cs, hg, hs, hx⟩ := h
  refine ⟨by simp [hl], .inr ⟨b, n, cs, by rw [hl], hb, hg, by omega, hm, by omega, ?_⟩⟩
  apply List.ext_getElem?
  intro j
  rw [List.getElem?_take]
  by_cases hj : j < n
  · have hj2 : j < l.length := by omega
    rw [if_pos (by omega), Array.getElem?_toList, hx j hj, List.getElem?_map, List.getElem?_eq_getElem hj2]
    simp [bv, List.getD, hj2]
  · rw [if_neg (by omega), List.getElem?_eq_none (by rw [List.length_map]; omega)]
theorem cput14_any (x : Int) (n : Nat) (k : Int) (hk : k = (n : Int)) (hn : n ≤ 8) (w : World) (hx0 : 0 ≤ x) (hx1 : x < 18446744073709551616) :
    Calls Tryd.prog 67 #[.int .u64 x, .int .i64 k] w (GivesO 5 (be x.toNat n) w) := by
  subst hk
  refine (put_any x (n : Int) w hx0 hx1).mono ?_
  rintro e w' ⟨rfl, hr, hb⟩
  have hp : psz (n : Int) = n := by unfold psz; omega
  rw [hp] at hr
  exact ⟨_, by rw [hp], hr.ob14 (be_length _ _) (Nat.le_refl _) (by unfold maxLen; omega), hb⟩
set_option maxRecDepth 100000 in
set_option maxHeartbeats 1000000 in
/-- bytes.Clone: nil of nil, else bytes of its own. -/
theorem bclone14_any (A : Option Addr) (n c B : Nat) (l : List UInt8) (w : World) (hB : B ≤ w.heap.size) (h : Rd w B A n l) (hn : n ≤ 140737488355328) :
    Calls Tryd.prog 75 #[.slice A n c] w (GivesO 5 l w) := by
  have hl := h.1
  rcases A with _ | a
  · have h0 : n = 0 := by
      rcases Nat.eq_zero_or_pos n with h0 | h0
      · exact h0
      · obtain ⟨_, _, e, _⟩ := h.2 h0
        cases e
    subst h0
    have e : l = [] := List.eq_nil_of_length_eq_zero hl
    subst e
    have q22 := fun (W : World) (a : Option Addr) (n c : Nat) => Lib.run_eql_slice_nil (P := Tryd.prog) W 33 5 a n c 0 0 Tryd.underlying33
    go_enter Tryd.func75, Tryd.ntmps75
    go_wp2_with fail
    go_ret
    exact ⟨_, rfl, Ob.nil_ _ _ _, Below.refl _ _⟩
  · have HR := Lib.hid (h.alloc hB (.cells #[] 5))
    have HO := Lib.hid (show Ob (w.alloc (.cells #[] 5)) w.heap.size 5 (.slice (some ⟨w.heap.size, 0, none⟩) 0 0) [] from Ob.lit w [] #[] rfl (Nat.le_refl _) 0 rfl (by decide))
    have HN : Hid (([] : List UInt8).length + n ≤ 140737488355328) := by show _ ≤ _; simp; exact hn
    clear h hn hl hB
    have q22 := fun (W : World) (a : Option Addr) (n c : Nat) => Lib.run_eql_slice_nil (P := Tryd.prog) W 33 5 a n c 0 0 Tryd.underlying33
    go_enter Tryd.func75, Tryd.ntmps75
    go_wp2_with (first
      | (at_builtin; refine wpList_appB rfl (.tmp 5) (.tmp 6) 33 rfl w.heap.size 5 Tryd.underlying33 info_u8 _ [] rfl HO.out B (some a) n c l rfl HR.out HN.out (by simp) ?_; intro v1 w1 ho1 hb1; have O1 := Lib.hid ho1; have B1 := Lib.hid (((Below.refl w.heap.size w).alloc (Nat.le_refl _) _).trans hb1); clear ho1 hb1)
      | fail)
    go_ret
    exact ⟨_, rfl, by have := O1.out; rwa [List.nil_append] at this, B1.out⟩

end Go.Proofs.YtahgaogmcffglaaDoor
/- The code of layer 14: sum, Frame, Size. (Made by gen/RecS.py.) -/
namespace Go.Proofs.YtahgaogmcffglaaDoor
open Go.RowKit Go.Extern.Stop Go.Stop Go.Extern

theorem mayR_rok {t : Int} {n : Nat} {d : List UInt8} (hd : d.length = n) : mayR t n ↔ rokR ⟨t, d⟩ = true := by
  rw [rokR_iff]
  show _ ↔ 1 ≤ t ∧ t ≤ 255 ∧ d.length ≤ 8192
  rw [hd]
  exact Iff.rfl
set_option maxRecDepth 100000 in
set_option maxHeartbeats 8000000 in
theorem csum14_any (salt : Nat) (A : Option Addr) (n c B : Nat) (l : List UInt8) (w : World) (hsl : salt < 18446744073709551616) (h : Rd w B A n l) (hB : B ≤ w.heap.size) (hn : n ≤ 70368744177664) :
    Calls Tryd.prog 68 #[.int .u64 (salt : Int), .slice A n c] w (Gives (crcBytes 2 (be salt 8 ++ l)) w) := by
  have C1 := Lib.hid (cput14_any (salt : Int) 8 8 rfl (by decide) w (by omega) (by omega))
  rw [Int.toNat_natCast] at C1
  have HR := Lib.hid (fun W (hb : Below w.heap.size w W) => h.below (hb.mono hB))
  have HN : Hid ((be salt 8).length + n ≤ 140737488355328) := by show _ ≤ _; rw [be_length]; omega
  have HN2 : Hid (n + 8 ≤ 140737488355328) := by show _ ≤ _; omega
  have LN : Hid ((be salt 8 ++ l).length = n + 8) := by show _ = _; rw [List.length_append, be_length, h.1]; omega
  clear h hn hB hsl
  go_enter Tryd.func68, Tryd.ntmps68
  go_wp2_with (first
    | (go_at_call 67; refine C1.out.mono ?_; rintro e w1 ⟨v1, rfl, ho1, hb1⟩; have O1 := Lib.hid ho1; have B1 := Lib.hid hb1; clear ho1 hb1)
    | (at_builtin; refine wpList_appB rfl (.tmp 6) (.tmp 7) 33 rfl w.heap.size 5 Tryd.underlying33 info_u8 v1 (be salt 8) rfl (O1.out) _ A n c l rfl (HR.out _ B1.out) (HN.out) (B1.out.size) ?_; intro v2 w2 ho2 hb2; have B2 := Lib.hid (B1.out.trans hb2); obtain ⟨A2, c2, hv2, hc2, -, hr2⟩ := ho2.rd; rw [LN.out] at hv2 hr2; subst hv2; have R2 := Lib.hid hr2; clear ho2 hb2 hr2 hc2)
    | (go_at_call 72; refine (bytes_any 2 A2 (n + 8) c2 _ _ w2 R2.out HN2.out).mono ?_; rintro e w3 ⟨A3, n3, c3, rfl, hr3, hc3, hb3⟩; have R3 := Lib.hid hr3; have HC3 := Lib.hid hc3; have B3 := Lib.hid (B2.out.trans (hb3.mono B2.out.size)); clear hr3 hb3 hc3)
    | fail)
  go_ret
  exact ⟨A3, n3, c3, rfl, R3.out, HC3.out, B3.out⟩

set_option maxRecDepth 100000 in
set_option maxHeartbeats 8000000 in
theorem cframe_any (X : Snt14) (salt : Nat) (t : Int) (A : Option Addr) (n c B : Nat) (d : List UInt8) (w : World) (hA : Lds14 X w) (hsl : salt < 18446744073709551616) (h : Rd w B A n d) (hB : B ≤ w.heap.size) :
    Calls Tryd.prog 60 #[.int .u64 (salt : Int), recV t A n c] w (FrmR salt ⟨t, d⟩ w) := by
  obtain ⟨w1, hw1⟩ : ∃ w1, w1 = w.alloc (.cells #[.int .i64 t, .slice A n c] 35) := ⟨_, rfl⟩
  have hb1 : Below w.heap.size w w1 := by rw [hw1]; exact (Below.refl _ _).alloc (Nat.le_refl _) _
  have hbox : w1.heap[w.heap.size]? = some (.cells #[.int .i64 t, .slice A n c] 35 (0, 0)) := by rw [hw1]; exact heap_alloc_new w _
  have hA1 : Lds14 X w1 := hA.below hb1 (Nat.le_refl _)
  have CC := Lib.hid (check14_any X t n w1 hA1)
  have HX := Lib.hid hbox
  have HB1 := Lib.hid hb1
  have HW := Lib.hid hw1
  have HL := Lib.hid hA1
  have HD := Lib.hid h.1
  have HR := Lib.hid (And.intro h hB)
  have hm := mayR_rok (t := t) h.1
  obtain ⟨x0, x1⟩ : w1.cell? ⟨w.heap.size, 0, none⟩ = some (.int .i64 t) ∧ w1.cell? ⟨w.heap.size, 1, none⟩ = some (.slice A n c) := by refine ⟨?_, ?_⟩ <;> (rw [cell_of_row w1 w.heap.size _ _ _ _ hbox]; rfl)
  unfold recV ChkR at *
  cases hr : rokR ⟨t, d⟩ with
  | false =>
    have hnm : ¬ mayR t n := fun hh => by rw [hm, hr] at hh; cases hh
    have HNM := Lib.hid hnm
    have HF : Hid (∀ w', Below w.heap.size w w' → FrmR salt ⟨t, d⟩ w (.returned (.tuple #[.slice none 0 0, .int .i64 140])) w') := fun w' hb => ⟨hb, _, _, rfl, by rw [hr]; rfl, by rw [hr]; exact Ob.nil_ _ _ _⟩
    have q1 := fun (W : World) (u : TypeId) (x : Value) => run_neq_iface_nil (P := Tryd.prog) (w := W) 101 (by kernel_rfl) u x
    clear h hB hb1 hbox hr hm hnm hA hA1
    go_enter Tryd.func60, Tryd.ntmps60
    simp only [hw1] at x0 x1
    clear hw1
    go_wp2_with fail
    rw [← HW.out]
    refine CC.out.mono ?_
    rintro e w2 ⟨hb2, E, rfl, -, hE⟩
    obtain ⟨s, rfl⟩ := hE HNM.out
    have B2 := Lib.hid (HB1.out.trans (hb2.mono HB1.out.size))
    have CN := Lib.hid (number14_r X s w2 (HL.out.below hb2 (Nat.le_refl _)))
    clear hb2 x0 x1 hE
    unfold flt14 at *
    go_wp2_with fail
    refine CN.out.mono ?_
    rintro e w3 ⟨rfl, hb3⟩
    have B3 := Lib.hid (B2.out.trans (hb3.mono B2.out.size))
    clear hb3
    go_wp2_with fail
    exact bodyPost_ret (v := .tuple #[.slice none 0 0, .int .i64 140]) (by simp [results, Tryd.results60, go_sem]) rfl (HF.out _ B3.out)
  | true =>
    have hnm : mayR t n := hm.2 hr
    obtain ⟨k1, k2, k3⟩ := hnm
    have HNM : Hid (mayR t n) := ⟨k1, k2, k3⟩
    have HF : Hid (∀ w' v, Below w.heap.size w w' → Ob w' w.heap.size 5 v (frameR salt ⟨t, d⟩) → FrmR salt ⟨t, d⟩ w (.returned (.tuple #[v, .int .i64 0])) w') := fun w' v hb ho => ⟨hb, v, _, rfl, by rw [hr]; rfl, by rw [hr, if_pos rfl]; exact ho⟩
    have wt := byte_of t k1 k2
    obtain ⟨T, hT⟩ : ∃ T : UInt8, T = UInt8.ofNat t.toNat := ⟨_, rfl⟩
    rw [← hT] at wt
    have HT := Lib.hid hT
    have HN := Lib.hid k3
    have wn : IntKind.u64.wrap (n : Int) = (n : Int) := by rw [show IntKind.u64.wrap (n : Int) = (n : Int) % 18446744073709551616 from rfl]; omega
    have q0 := fun (W : World) => run_neq_nil_nil_at (P := Tryd.prog) (w := W) 101 (by kernel_rfl)
    clear h hB hb1 hbox hr hm hA hA1 k1 k2 k3 hT
    go_enter Tryd.func60, Tryd.ntmps60
    simp only [hw1] at x0 x1
    clear hw1
    go_wp2_with fail
    rw [← HW.out]
    refine CC.out.mono ?_
    rintro e w2 ⟨hb2, E, rfl, hE, -⟩
    obtain rfl := hE HNM.out
    have x2 : w2.heap[w.heap.size]? = some (.cells #[.int .i64 t, .slice A n c] 35 (0, 0)) := (hb2.block _ (Array.getElem?_eq_some_iff.1 HX.out).1).trans HX.out
    have B2 := Lib.hid (HB1.out.trans (hb2.mono HB1.out.size))
    have L2 : Hid (w.heap.size < w2.heap.size) := (Array.getElem?_eq_some_iff.1 x2).1
    have KX : Hid (∀ W, Below w2.heap.size w2 W → W.cell? ⟨w.heap.size, 0, none⟩ = some (.int .i64 t) ∧ W.cell? ⟨w.heap.size, 1, none⟩ = some (.slice A n c)) := fun W hW => by
      have hx := (hW.block _ L2.out).trans x2
      refine ⟨?_, ?_⟩ <;> (rw [cell_of_row W w.heap.size _ _ _ _ hx]; rfl)
    have RX : Hid (∀ W, Below w2.heap.size w2 W → Rd W B A n d) := fun W hW => (HR.out.1.below (B2.out.mono HR.out.2)).below (hW.mono (Nat.le_trans HR.out.2 B2.out.size))
    have CZ := Lib.hid (sizeOf14_any n w2 (by have := HN.out; omega))
    have CP := Lib.hid (fun W => cput14_any (n : Int) 2 2 rfl (by decide) W (by omega) (by have := HN.out; omega))
    rw [Int.toNat_natCast] at CP
    clear hb2 x2 hE x0 x1 CC
    obtain ⟨x0, x1⟩ := KX.out w2 (Below.refl _ _)
    go_upto_region 5 with (first
      | (go_at_call 59; refine CZ.out.mono ?_; rintro e wz ⟨rfl, rfl⟩)
      | (refine wpList_makeB14 rfl _ _ 33 rfl 5 Tryd.underlying33 info_u8 (n + 7) ((n : Int) + 7) rfl rfl (by omega) (by have := HN.out; omega) ?_; intro w3 ho3 hb3; have O3 := Lib.hid ho3; have B3 := Lib.hid hb3; clear ho3 x0 x1; obtain ⟨x0, x1⟩ := KX.out w3 hb3; clear hb3)
      | fail)
    go_upto_region 6 with (first
      | (go_at_call 67; refine (CP.out w3).mono ?_; rintro e w4 ⟨vp, rfl, hop, hbp⟩; obtain ⟨Ap, cp, hvp, -, -, hrp⟩ := hop.rd; rw [be_length] at hvp hrp; subst hvp; have RP := Lib.hid hrp; have O4 := Lib.hid (O3.out.below hbp); have B4 := Lib.hid (B3.out.trans (hbp.mono B3.out.size)); clear hop hbp hrp x0 x1; obtain ⟨x0, x1⟩ := KX.out w4 B4.out)
      | (at_builtin; refine wpList_appB rfl (.tmp 23) (.tmp 28) 33 rfl w2.heap.size 5 Tryd.underlying33 info_u8 _ ([]) rfl (O4.out) _ Ap 2 cp (be n 2) rfl (RP.out) (by decide) (B4.out.size) ?_; intro v5 w5 ho5 hb5; rw [List.nil_append] at ho5; have O5 := Lib.hid ho5; have B5 := Lib.hid (B4.out.trans hb5); clear ho5 hb5 x0 x1; obtain ⟨x0, x1⟩ := KX.out w5 B5.out)
      | fail)
    have LB : Hid ((be n 2 ++ [T]).length = 3) := by show _ = _; rw [List.length_append, be_length]; rfl
    go_upto_region 7 with (first
      | (at_builtin; refine wpList_appB rfl (.tmp 30) (.tmp 34) 33 rfl w2.heap.size 5 Tryd.underlying33 info_u8 v5 (be n 2) rfl (O5.out.alloc _) _ (some ⟨w5.heap.size, 0, none⟩) 1 1 [T] rfl (Rd.lit w5 w5.heap.size rfl [T] 5 _ (by first | rfl | (rw [wt]; rfl)) 1 rfl) (by rw [be_length]; decide) (Nat.le_trans B5.out.size (by simp)) ?_; intro v6 w6 ho6 hb6; have O6 := Lib.hid ho6; have B6 := Lib.hid (((B5.out.alloc B5.out.size _)).trans hb6); clear ho6 hb6 x0 x1; obtain ⟨x0, x1⟩ := KX.out w6 B6.out)
      | fail)
    go_upto_region 8 with (first
      | (at_builtin; refine wpList_appB rfl (.tmp 36) (.tmp 38) 33 rfl w2.heap.size 5 Tryd.underlying33 info_u8 v6 (be n 2 ++ [T]) rfl (O6.out) _ A n c d rfl (RX.out _ B6.out) (by rw [LB.out]; have := HN.out; omega) (B6.out.size) ?_; intro v7 w7 ho7 hb7; have O7 := Lib.hid ho7; have B7 := Lib.hid (B6.out.trans hb7); clear ho7 hb7 x0 x1)
      | fail)
    have EB : Hid (be n 2 ++ [T] ++ d = bodyR ⟨t, d⟩) := by
      show _ = be d.length 2 ++ (UInt8.ofNat t.toNat :: d)
      rw [HT.out, HD.out, List.append_assoc]
      rfl
    rw [EB.out] at O7
    have LB7 : Hid ((bodyR ⟨t, d⟩).length = n + 3) := by show _ = _; rw [bodyR_len]; show d.length + 3 = _; rw [HD.out]
    obtain ⟨A7, c7, hv7, -, -, hr7⟩ := O7.out.rd
    rw [LB7.out] at hv7 hr7
    subst hv7
    have CS := Lib.hid (csum14_any salt A7 (n + 3) c7 _ (bodyR ⟨t, d⟩) w7 hsl hr7 (Nat.le_refl _) (by have := HN.out; omega))
    clear hr7 hsl
    go_wp2_with (first
      | (go_at_call 68; refine CS.out.mono ?_; rintro e w8 ⟨A8, n8, c8, rfl, hr8, hc8, hb8⟩; have R8 := Lib.hid hr8; have S8 : Hid ((bodyR ⟨t, d⟩).length + n8 = n + 7) := (by show _ = _; rw [LB7.out, ← hr8.1, show (crcBytes 2 (be salt 8 ++ bodyR ⟨t, d⟩)).length = 4 from sumR_len salt ⟨t, d⟩]); have O8 := Lib.hid (O7.out.below hb8); have B8 := Lib.hid (B7.out.trans (hb8.mono B7.out.size)); clear hr8 hb8 hc8)
      | (at_builtin; refine wpList_appB rfl (.tmp 40) (.tmp 43) 33 rfl w2.heap.size 5 Tryd.underlying33 info_u8 _ (bodyR ⟨t, d⟩) rfl (O8.out) _ A8 n8 c8 (crcBytes 2 (be salt 8 ++ bodyR ⟨t, d⟩)) rfl (R8.out) (by rw [S8.out]; have := HN.out; omega) (B8.out.size) ?_; intro v9 w9 ho9 hb9; have O9 := Lib.hid ho9; have B9 := Lib.hid (B8.out.trans hb9); clear ho9 hb9)
      | fail)
    exact bodyPost_ret (v := .tuple #[v9, .int .i64 0]) (by simp [results, Tryd.results60, go_sem]) rfl (HF.out _ _ (B2.out.trans (B9.out.mono B2.out.size)) (O9.out.wide B2.out.size))

set_option maxRecDepth 100000 in
set_option maxHeartbeats 8000000 in
theorem csize_any (X : Snt14) (t : Int) (A : Option Addr) (n c : Nat) (d : List UInt8) (w : World) (hA : Lds14 X w) (hd : d.length = n) :
    Calls Tryd.prog 52 #[recV t A n c] w fun e w' => e = .returned (.int .i64 (if rokR ⟨t, d⟩ = true then ((n : Int) + 7) else 0)) ∧ Below w.heap.size w w' := by
  obtain ⟨w1, hw1⟩ : ∃ w1, w1 = w.alloc (.cells #[.int .i64 t, .slice A n c] 35) := ⟨_, rfl⟩
  have hb1 : Below w.heap.size w w1 := by rw [hw1]; exact (Below.refl _ _).alloc (Nat.le_refl _) _
  have hbox : w1.heap[w.heap.size]? = some (.cells #[.int .i64 t, .slice A n c] 35 (0, 0)) := by rw [hw1]; exact heap_alloc_new w _
  have CC := Lib.hid (check14_any X t n w1 (hA.below hb1 (Nat.le_refl _)))
  have HX := Lib.hid hbox
  have HB1 := Lib.hid hb1
  have HW := Lib.hid hw1
  have hm := mayR_rok (t := t) hd
  obtain ⟨x0, x1⟩ : w1.cell? ⟨w.heap.size, 0, none⟩ = some (.int .i64 t) ∧ w1.cell? ⟨w.heap.size, 1, none⟩ = some (.slice A n c) := by refine ⟨?_, ?_⟩ <;> (rw [cell_of_row w1 w.heap.size _ _ _ _ hbox]; rfl)
  unfold recV ChkR at *
  cases hr : rokR ⟨t, d⟩ with
  | false =>
    have HNM : Hid (¬ mayR t n) := fun hh => by rw [hm, hr] at hh; cases hh
    have q1 := fun (W : World) (u : TypeId) (x : Value) => run_neq_iface_nil (P := Tryd.prog) (w := W) 101 (by kernel_rfl) u x
    rw [if_neg (by decide)]
    clear hb1 hbox hr hm hA hd
    go_enter Tryd.func52, Tryd.ntmps52
    simp only [hw1] at x0 x1
    clear hw1
    go_wp2_with fail
    rw [← HW.out]
    refine CC.out.mono ?_
    rintro e w2 ⟨hb2, E, rfl, -, hE⟩
    obtain ⟨s, rfl⟩ := hE HNM.out
    have B2 := Lib.hid (HB1.out.trans (hb2.mono HB1.out.size))
    clear hb2 x0 x1 hE
    unfold flt14 at *
    go_wp2_with fail
    go_ret
    exact ⟨rfl, B2.out⟩
  | true =>
    have hnm : mayR t n := hm.2 hr
    have HNM := Lib.hid hnm
    have q0 := fun (W : World) => run_neq_nil_nil_at (P := Tryd.prog) (w := W) 101 (by kernel_rfl)
    have CZ := Lib.hid (fun W => sizeOf14_any n W (by have := hnm.2.2; omega))
    rw [if_pos rfl]
    clear hb1 hbox hr hm hA hd hnm
    go_enter Tryd.func52, Tryd.ntmps52
    simp only [hw1] at x0 x1
    clear hw1
    go_wp2_with fail
    rw [← HW.out]
    refine CC.out.mono ?_
    rintro e w2 ⟨hb2, E, rfl, hE, -⟩
    obtain rfl := hE HNM.out
    have x2 : w2.cell? ⟨w.heap.size, 1, none⟩ = some (.slice A n c) := by
      rw [cell_of_row w2 w.heap.size _ _ _ _ ((hb2.block _ (Array.getElem?_eq_some_iff.1 HX.out).1).trans HX.out)]
      rfl
    have B2 := Lib.hid (HB1.out.trans (hb2.mono HB1.out.size))
    clear hb2 x0 x1 hE
    go_wp2_with (first
      | (go_at_call 59; refine (CZ.out _).mono ?_; rintro e wz ⟨rfl, rfl⟩)
      | fail)
    go_ret
    exact ⟨rfl, B2.out⟩
end Go.Proofs.YtahgaogmcffglaaDoor
