/- What write of layer 3's reference returns, of a right item. What write of layer 3's reference returns, of every right item. -/
import Derived.Test.YtbdjkihgcmebgaaGreatDoorRCborN
import Derived.Test.YtbdjkihgcmebgaaGreatDoorRCborP
import Derived.Deep.RegionHeld3
namespace Go.Proofs.YtbdjkihgcmebgaaGreatDoor
open Go.RowKit

section
variable {P : Program} {w : World}
/-- append at a step of a region that draws its order. -/
theorem step_appB {ops : Array Oper} {o : Oper} {a : Act} {K : Act → World → Prop} {Q : Exit → Act → World → Prop} {E : Prop} (hgd : o.guard = none) (s x : Operand) (t : TypeId)
    (ho : o.op = .call { callee := .builtin .append, args := #[s, x], argTypes := #[t, t] })
    (base : Nat) (e : TypeId) (ht : P.underlying t = some (.slice e)) (hinfo : (P.info? e).map (fun i => (i.zero, i.size, i.bytes)) = some (some (.int .u8 0), 1, 1))
    (v : Value) (l : List UInt8) (hs : a.eval s = v) (hown : Ob w base e v l) (B : Nat) (A : Option Addr) (m c : Nat) (news : List UInt8) (hx : a.eval x = .slice A m c) (hr : Rd w B A m news)
    (hbound : l.length + m ≤ 140737488355328) (hbase : base ≤ w.heap.size)
    (h : ∀ v' w', Ob w' base e v' (l ++ news) → Below base w w' → K (a.put o.dst v') w') : if Region.wanted o (yielded ops a.tmps) = true then Oper.wp P o a w K Q else E := by
  have hw : Region.wanted o (yielded ops a.tmps) = true := by simp [Region.wanted, hgd]
  rw [if_pos hw]
  obtain ⟨v', w', hrun, h2, h3, h4⟩ := run_app (P := P) w base t o.type e ht hinfo v l hown B A m c news hr hbound hbase
  unfold Oper.wp execOp
  simp only [ho, resolve, invoke, builtin, Sem.run_bind, Sem.run_pure, Result.andThen_ok, List.map_toArray, List.map_cons, List.map_nil, hs, hx, hrun]
  exact h v' w' h2 ⟨h3.os, h3.tape, h3.output, h3.size, fun k hk => h3.block k (by omega) (fun e => by have := (World.ownsRow.lt hown k e.symm).1; omega)⟩
end

set_option maxRecDepth 100000 in
set_option maxHeartbeats 600000 in
theorem rwrite_text (k : Int) (hk : k = 2 ∨ k = 3) (nd cd cl B : Nat) (A AL : Option Addr) (d : List UInt8) (w : World) (hB : B ≤ w.heap.size) (hrd : Rd w B A nd d) (_hc : nd ≤ cd) (hlen : (wri (.mk k 0 d [])).length ≤ 140737488355328) :
    Calls Tryz.prog 69 #[.agg #[.int .i64 k, .int .u64 0, .slice A nd cd, .slice AL 0 cl]] w (GivesO 5 (wri (.mk k 0 d [])) w) := by
  have e : wri (.mk k 0 d []) = hd k.toNat d.length ++ d := by rw [wri, if_neg (by omega), if_pos hk]
  rw [e] at hlen ⊢
  rw [hrd.1] at hlen ⊢
  have hl := hrd.1
  rw [List.length_append, hd_len, hl] at hlen
  have c1 := fun W => rhead_any k nd W (by rcases hk with rfl | rfl <;> decide) (by omega)
  have eh : headB k nd = hd k.toNat nd := by rw [headB, if_neg (by omega)]
  rw [eh] at c1
  have hw : IntKind.u64.wrap (nd : Int) = (nd : Int) := by rw [IntKind.wrap_u64]; omega
  have c2 := c1
  rw [← hw] at c2
  have C1 := Lib.hid c2
  clear hw c2
  have HL := Lib.hid (hd_len k.toNat nd)
  have hz := hsz_le nd
  have HD := Lib.hid hrd
  clear c1 eh e hrd hl
  generalize hd k.toNat nd = H at *
  generalize hsz nd = Z at *
  rcases hk with rfl | rfl
  · go_enter Tryz.func69, Tryz.ntmps69
    go_wp2_with fail
    have f0 : (w.alloc (.cells #[.int .i64 2, .int .u64 0, .slice A nd cd, .slice AL 0 cl] 42)).cell? ⟨w.heap.size, 0, none⟩ = some (.int .i64 2) := by simp
    have f2 : (w.alloc (.cells #[.int .i64 2, .int .u64 0, .slice A nd cd, .slice AL 0 cl] 42)).cell? ⟨w.heap.size, 2, none⟩ = some (.slice A nd cd) := by simp
    have FB := Lib.hid ((Below.refl w.heap.size w).alloc (Nat.le_refl _) (.cells #[.int .i64 2, .int .u64 0, .slice A nd cd, .slice AL 0 cl] 42))
    have FZ : Hid (w.heap.size + 1 ≤ (w.alloc (.cells #[.int .i64 2, .int .u64 0, .slice A nd cd, .slice AL 0 cl] 42)).heap.size) := (by simp : _ ≤ _)
    generalize w.alloc (.cells #[.int .i64 2, .int .u64 0, .slice A nd cd, .slice AL 0 cl] 42) = W0 at *
    have hB0 := Lib.hid hB
    clear hB
    go_region_held3 (fun W => W.cell? ⟨w.heap.size, 0, none⟩ = some (.int .i64 2) ∧ W.cell? ⟨w.heap.size, 2, none⟩ = some (.slice A nd cd))
      (first | (exact ⟨f0, f2⟩) | (exact ⟨(HB.out.cell (p := ⟨w.heap.size, 0, none⟩) FZ.out).trans f0, (HB.out.cell (p := ⟨w.heap.size, 2, none⟩) FZ.out).trans f2⟩) | (exact ⟨(B1.out.cell (p := ⟨w.heap.size, 0, none⟩) (Nat.lt_succ_self _)).trans ((HB.out.cell (p := ⟨w.heap.size, 0, none⟩) FZ.out).trans f0), (B1.out.cell (p := ⟨w.heap.size, 2, none⟩) (Nat.lt_succ_self _)).trans ((HB.out.cell (p := ⟨w.heap.size, 2, none⟩) FZ.out).trans f2)⟩) | fail)
      (first
        | (go_at_call 87; refine (C1.out _).mono ?_; rintro e w1 ⟨v, rfl, ho, hb⟩; have HO := Lib.hid ho; have HB := Lib.hid (((Below.refl W0.heap.size W0).drew).trans hb); clear ho hb)
        | (refine step_appB (by rfl) (.tmp 25) (.tmp 27) 22 (by rfl) (w.heap.size + 1) 5 Tryz.underlying22 info_u8 _ H (by rfl) (HO.out.weak FZ.out) B A nd cd d (by rfl) ((HD.out.below (FB.out.mono hB0.out)).below (HB.out.mono (Nat.le_trans hB0.out (Nat.le_trans (Nat.le_succ _) FZ.out)))) (by rw [HL.out]; omega) (Nat.le_trans FZ.out HB.out.size) ?_; intro v1 w2 ho1 hb1; have O1 := Lib.hid ho1; have B1 := Lib.hid hb1; clear ho1 hb1)
        | fail)
    go_wp2_with fail
    go_ret
    exact ⟨_, rfl, O1.out.weak (Nat.le_succ _), (FB.out.trans (HB.out.mono (Nat.le_trans (Nat.le_succ _) FZ.out))).trans (B1.out.mono (Nat.le_succ _))⟩
  · go_enter Tryz.func69, Tryz.ntmps69
    go_wp2_with fail
    have f0 : (w.alloc (.cells #[.int .i64 3, .int .u64 0, .slice A nd cd, .slice AL 0 cl] 42)).cell? ⟨w.heap.size, 0, none⟩ = some (.int .i64 3) := by simp
    have f2 : (w.alloc (.cells #[.int .i64 3, .int .u64 0, .slice A nd cd, .slice AL 0 cl] 42)).cell? ⟨w.heap.size, 2, none⟩ = some (.slice A nd cd) := by simp
    have FB := Lib.hid ((Below.refl w.heap.size w).alloc (Nat.le_refl _) (.cells #[.int .i64 3, .int .u64 0, .slice A nd cd, .slice AL 0 cl] 42))
    have FZ : Hid (w.heap.size + 1 ≤ (w.alloc (.cells #[.int .i64 3, .int .u64 0, .slice A nd cd, .slice AL 0 cl] 42)).heap.size) := (by simp : _ ≤ _)
    generalize w.alloc (.cells #[.int .i64 3, .int .u64 0, .slice A nd cd, .slice AL 0 cl] 42) = W0 at *
    have hB0 := Lib.hid hB
    clear hB
    go_region_held3 (fun W => W.cell? ⟨w.heap.size, 0, none⟩ = some (.int .i64 3) ∧ W.cell? ⟨w.heap.size, 2, none⟩ = some (.slice A nd cd))
      (first | (exact ⟨f0, f2⟩) | (exact ⟨(HB.out.cell (p := ⟨w.heap.size, 0, none⟩) FZ.out).trans f0, (HB.out.cell (p := ⟨w.heap.size, 2, none⟩) FZ.out).trans f2⟩) | (exact ⟨(B1.out.cell (p := ⟨w.heap.size, 0, none⟩) (Nat.lt_succ_self _)).trans ((HB.out.cell (p := ⟨w.heap.size, 0, none⟩) FZ.out).trans f0), (B1.out.cell (p := ⟨w.heap.size, 2, none⟩) (Nat.lt_succ_self _)).trans ((HB.out.cell (p := ⟨w.heap.size, 2, none⟩) FZ.out).trans f2)⟩) | fail)
      (first
        | (go_at_call 87; refine (C1.out _).mono ?_; rintro e w1 ⟨v, rfl, ho, hb⟩; have HO := Lib.hid ho; have HB := Lib.hid (((Below.refl W0.heap.size W0).drew).trans hb); clear ho hb)
        | (refine step_appB (by rfl) (.tmp 25) (.tmp 27) 22 (by rfl) (w.heap.size + 1) 5 Tryz.underlying22 info_u8 _ H (by rfl) (HO.out.weak FZ.out) B A nd cd d (by rfl) ((HD.out.below (FB.out.mono hB0.out)).below (HB.out.mono (Nat.le_trans hB0.out (Nat.le_trans (Nat.le_succ _) FZ.out)))) (by rw [HL.out]; omega) (Nat.le_trans FZ.out HB.out.size) ?_; intro v1 w2 ho1 hb1; have O1 := Lib.hid ho1; have B1 := Lib.hid hb1; clear ho1 hb1)
        | fail)
    go_wp2_with fail
    go_ret
    exact ⟨_, rfl, O1.out.weak (Nat.le_succ _), (FB.out.trans (HB.out.mono (Nat.le_trans (Nat.le_succ _) FZ.out))).trans (B1.out.mono (Nat.le_succ _))⟩

theorem wrs_app : ∀ (a b : List Itm), wrs (a ++ b) = wrs a ++ wrs b
  | [], b => by rw [wrs]; rfl
  | x :: r, b => by rw [List.cons_append, wrs, wrs, wrs_app r b, List.append_assoc]
theorem wrs_take (l : List Itm) (j : Nat) (h : j < l.length) : wrs (l.take (j + 1)) = wrs (l.take j) ++ wri (l[j]'h) := by
  rw [List.take_succ_eq_append_getElem h, wrs_app, wrs, wrs, List.append_nil]
theorem wrs_take_len (l : List Itm) (j : Nat) : (wrs (l.take j)).length ≤ (wrs l).length := by
  conv => rhs; rw [← List.take_append_drop j l, wrs_app, List.length_append]
  omega
theorem right_get : ∀ {l : List Itm}, rights l = true → ∀ {i : Nat} (hi : i < l.length), right (l[i]'hi) = true
  | [], _, _, hi => absurd hi (Nat.not_lt_zero _)
  | x :: r, h, 0, _ => by rw [rights, Bool.and_eq_true] at h; exact h.1
  | x :: r, h, i + 1, hi => by rw [rights, Bool.and_eq_true] at h; exact right_get h.2 (i := i) (by simpa using hi)

theorem le_one (w : World) (o : Obj) : w.heap.size + 1 ≤ (w.alloc o).heap.size := by simp
/-- The call of write on each smaller item. -/
def WriteIH (m : Nat) : Prop := ∀ (x : Itm) (v : Value) (w : World) (B : Nat), par x < m → right x = true → (wri x).length ≤ 140737488355328 → B ≤ w.heap.size → RdI w B v x →
    Calls Tryz.prog 69 #[v] w (GivesO 5 (wri x) w)

set_option maxRecDepth 100000 in
set_option maxHeartbeats 4000000 in
theorem rwrite_arr4 (m N nd cd cl B : Nat) (A AL : Option Addr) (l : List Itm) (w : World) (hm : 1 + pars l < m + 1) (hB : B ≤ w.heap.size) (hlen : (hd 4 N ++ wrs l).length ≤ 140737488355328) (hrt : rights l = true) (h5 : N ≤ cl ∧ N ≤ 140737488355328)
    (IH : Hid (WriteIH m)) (H7 : Hid (0 < N → ∃ b o, AL = some ⟨b, o, none⟩ ∧ b < B ∧ RdIs w B b o l)) (HL : Hid (l.length = N)) :
    Calls Tryz.prog 69 #[.agg #[.int .i64 4, .int .u64 0, .slice A nd cd, .slice AL N cl]] w (GivesO 5 (hd 4 N ++ wrs l) w) := by
  have C1 := Lib.hid (fun W => rhead_any 4 N W (by decide) (by omega))
  have HH : Hid (headB 4 N = hd 4 N) := by show _ = _; rw [headB, if_neg (by decide)]; rfl
  obtain ⟨H, hH⟩ : ∃ H, H = hd 4 N := ⟨_, rfl⟩
  rw [← hH] at hlen ⊢
  rw [HH.out, ← hH] at C1
  rw [List.length_append] at hlen
  have HRT := Lib.hid hrt
  have HLEN := Lib.hid hlen
  clear hrt hlen HH hH
  go_enter Tryz.func69, Tryz.ntmps69
  go_wp2_with fail
  refine (C1.out _).mono ?_
  rintro e w1 ⟨v, rfl, ho, hb⟩
  have HO := Lib.hid ho
  have HB := Lib.hid hb
  clear ho hb
  go_wp2_with fail
  go_loopw [3, 4] (fun bv i wr => ∃ j : Nat, j ≤ N ∧ i = .int .i64 j ∧ Hid (Ob wr (w.heap.size + 1) 5 bv (H ++ wrs (l.take j))) ∧ Hid (Below (w.heap.size + 1) (w.alloc (.cells #[.int .i64 4, .int .u64 0, .slice A nd cd, .slice AL N cl] 42)) wr))
    (fun _ i _ => N - (intOf i).toNat)
  case atStart => exact ⟨0, Nat.zero_le _, rfl, by show Ob _ _ _ _ _; rw [List.take_zero, wrs, List.append_nil]; exact HO.out.weak (by simp), ((Below.refl _ _).alloc (by simp) _).trans (HB.out.mono (by simp))⟩
  case round =>
    obtain ⟨j, hj, rfl, hob, hbel⟩ := hrel
    have hb3 : wr.cell? ⟨w.heap.size, 3, none⟩ = some (.slice AL N cl) := (hbel.out.cell (p := ⟨w.heap.size, 3, none⟩) (by simp)).trans (by simp)
    have hb0 : wr.cell? ⟨w.heap.size, 0, none⟩ = some (.int .i64 4) := (hbel.out.cell (p := ⟨w.heap.size, 0, none⟩) (by simp)).trans (by simp)
    have hsz : w.heap.size + 1 ≤ wr.heap.size := by have := hbel.out.size; simpa using this
    by_cases hlt : j < N
    · obtain ⟨b, o, rfl, hb, hs⟩ := H7.out (by omega)
      obtain ⟨c0, c1, c2, c3, g0, g1, g2, g3, gx⟩ := hs.get j (by rw [HL.out]; exact hlt)
      have hs' : Below w.heap.size w wr := ((Below.refl _ _).alloc (Nat.le_refl _) _).trans (hbel.out.mono (by omega))
      have e0 : wr.cell? ⟨b, o + j * 4, none⟩ = some c0 := (hs'.cell (p := ⟨b, o + j * 4, none⟩) (by show b < _; omega)).trans g0
      have e1 : wr.cell? ⟨b, o + j * 4 + 1, none⟩ = some c1 := (hs'.cell (p := ⟨b, o + j * 4 + 1, none⟩) (by show b < _; omega)).trans g1
      have e2 : wr.cell? ⟨b, o + j * 4 + 2, none⟩ = some c2 := (hs'.cell (p := ⟨b, o + j * 4 + 2, none⟩) (by show b < _; omega)).trans g2
      have e3 : wr.cell? ⟨b, o + j * 4 + 3, none⟩ = some c3 := (hs'.cell (p := ⟨b, o + j * 4 + 3, none⟩) (by show b < _; omega)).trans g3
      have hjl : j < l.length := by rw [HL.out]; exact hlt
      have htk := wrs_take l j hjl
      have htl := wrs_take_len l (j + 1)
      have hpg : par (l[j]'hjl) ≤ pars l := par_get _
      rw [htk, List.length_append] at htl
      have hll := HLEN.out
      have C1 := Lib.hid (IH.out (l[j]'hjl) _ wr B (by omega) (right_get HRT.out hjl) (by omega) (by omega) (gx.below (hs'.mono hB)))
      have HTK := Lib.hid htk
      have HBD : Hid ((H ++ wrs (l.take j)).length + (wri (l[j]'hjl)).length ≤ 140737488355328) := by show _ ≤ _; rw [List.length_append]; omega
      generalize wri (l[j]'hjl) = WX at *
      clear g0 g1 g2 g3 gx hs hs' htk htl hll hpg
      go_wp2_with fail
      refine C1.out.mono ?_
      rintro e w2 ⟨v2, rfl, ho2, hb2⟩
      obtain ⟨A2, cp2, rfl, hc2, hc3, hr2⟩ := ho2.rd
      have HR2 := Lib.hid hr2
      have HB2 := Lib.hid hb2
      have HZ2 : Hid (w.heap.size + 1 ≤ w2.heap.size) := Nat.le_trans hsz hb2.size
      clear ho2 hr2 hb2 hb3 hb0 e0 e1 e2 e3
      go_wp2_with (first
        | (at_builtin; refine wpList_appB rfl (.tmp 45) (.tmp 51) 22 rfl (w.heap.size + 1) 5 Tryz.underlying22 info_u8 _ _ rfl (hob.out.below HB2.out) _ _ _ _ _ rfl HR2.out HBD.out HZ2.out ?_; intro v3 w3 ho3 hb3; have O3 := Lib.hid ho3; have B3 := Lib.hid hb3; clear ho3 hb3)
        | fail)
      go_roundw
      case rel => exact ⟨j + 1, by omega, by go_num, by show Ob _ _ _ _ _; rw [HTK.out, ← List.append_assoc]; exact O3.out, (hbel.out.trans (HB2.out.mono hsz)).trans B3.out⟩
      case measure => simp [intOf]; omega
    · obtain rfl : j = N := by omega
      have hfin := hob.out
      rw [List.take_of_length_le (by rw [HL.out]; exact Nat.le_refl _)] at hfin
      have HF := Lib.hid hfin
      have HS := Lib.hid (((Below.refl w.heap.size w).alloc (Nat.le_refl _) _).trans (hbel.out.mono (by omega)))
      clear hfin
      go_wp2_with fail
      go_ret
      exact ⟨_, rfl, HF.out.weak (Nat.le_succ _), HS.out⟩

set_option maxRecDepth 100000 in
set_option maxHeartbeats 4000000 in
theorem rwrite_arr5 (m N nd cd cl B : Nat) (A AL : Option Addr) (l : List Itm) (w : World) (hm : 1 + pars l < m + 1) (hB : B ≤ w.heap.size) (hlen : (0x9f :: (wrs l ++ [0xff])).length ≤ 140737488355328) (hrt : rights l = true) (h5 : N ≤ cl ∧ N ≤ 140737488355328)
    (IH : Hid (WriteIH m)) (H7 : Hid (0 < N → ∃ b o, AL = some ⟨b, o, none⟩ ∧ b < B ∧ RdIs w B b o l)) (HL : Hid (l.length = N)) :
    Calls Tryz.prog 69 #[.agg #[.int .i64 5, .int .u64 0, .slice A nd cd, .slice AL N cl]] w (GivesO 5 (0x9f :: (wrs l ++ [0xff])) w) := by
  obtain ⟨H, hH⟩ : ∃ H : List UInt8, H = [0x9f] := ⟨_, rfl⟩
  have hH1 : H.length = 1 := by rw [hH]; rfl
  have eq : 0x9f :: (wrs l ++ [0xff]) = (H ++ wrs l) ++ [0xff] := by rw [hH]; rfl
  rw [eq] at hlen ⊢
  rw [List.length_append, List.length_append] at hlen
  simp only [List.length_cons, List.length_nil] at hlen
  have HRT := Lib.hid hrt
  have HLEN : Hid (H.length + (wrs l).length ≤ 140737488355328) := by show _ ≤ _; omega
  have HFIN : Hid ((H ++ wrs l).length + 1 ≤ 140737488355328) := by show _ ≤ _; rw [List.length_append]; omega
  have HH := Lib.hid hH
  clear hrt hlen hH hH1 eq
  go_enter Tryz.func69, Tryz.ntmps69
  go_wp2_with fail
  go_loopw [3, 4] (fun bv i wr => ∃ j : Nat, j ≤ N ∧ i = .int .i64 j ∧ Hid (Ob wr (w.heap.size + 1) 5 bv (H ++ wrs (l.take j))) ∧ Hid (Below (w.heap.size + 1) (w.alloc (.cells #[.int .i64 5, .int .u64 0, .slice A nd cd, .slice AL N cl] 42)) wr))
    (fun _ i _ => N - (intOf i).toNat)
  case atStart => exact ⟨0, Nat.zero_le _, rfl, by show Ob _ _ _ _ _; rw [List.take_zero, wrs, List.append_nil, HH.out]; have h := Ob.lit (base := w.heap.size + 1) (t := 5) (w.alloc (.cells #[.int .i64 5, .int .u64 0, .slice A nd cd, .slice AL N cl] 42)) [0x9f] #[.int .u8 159] rfl (le_one _ _) 1 rfl (by decide); simpa using h, (Below.refl _ _).alloc (le_one _ _) _⟩
  case round =>
    obtain ⟨j, hj, rfl, hob, hbel⟩ := hrel
    have hb3 : wr.cell? ⟨w.heap.size, 3, none⟩ = some (.slice AL N cl) := (hbel.out.cell (p := ⟨w.heap.size, 3, none⟩) (by simp)).trans (by simp)
    have hb0 : wr.cell? ⟨w.heap.size, 0, none⟩ = some (.int .i64 5) := (hbel.out.cell (p := ⟨w.heap.size, 0, none⟩) (by simp)).trans (by simp)
    have hsz : w.heap.size + 1 ≤ wr.heap.size := by have := hbel.out.size; simpa using this
    by_cases hlt : j < N
    · obtain ⟨b, o, rfl, hb, hs⟩ := H7.out (by omega)
      obtain ⟨c0, c1, c2, c3, g0, g1, g2, g3, gx⟩ := hs.get j (by rw [HL.out]; exact hlt)
      have hs' : Below w.heap.size w wr := ((Below.refl _ _).alloc (Nat.le_refl _) _).trans (hbel.out.mono (by omega))
      have e0 : wr.cell? ⟨b, o + j * 4, none⟩ = some c0 := (hs'.cell (p := ⟨b, o + j * 4, none⟩) (by show b < _; omega)).trans g0
      have e1 : wr.cell? ⟨b, o + j * 4 + 1, none⟩ = some c1 := (hs'.cell (p := ⟨b, o + j * 4 + 1, none⟩) (by show b < _; omega)).trans g1
      have e2 : wr.cell? ⟨b, o + j * 4 + 2, none⟩ = some c2 := (hs'.cell (p := ⟨b, o + j * 4 + 2, none⟩) (by show b < _; omega)).trans g2
      have e3 : wr.cell? ⟨b, o + j * 4 + 3, none⟩ = some c3 := (hs'.cell (p := ⟨b, o + j * 4 + 3, none⟩) (by show b < _; omega)).trans g3
      have hjl : j < l.length := by rw [HL.out]; exact hlt
      have htk := wrs_take l j hjl
      have htl := wrs_take_len l (j + 1)
      have hpg : par (l[j]'hjl) ≤ pars l := par_get _
      rw [htk, List.length_append] at htl
      have hll := HLEN.out
      have C1 := Lib.hid (IH.out (l[j]'hjl) _ wr B (by omega) (right_get HRT.out hjl) (by omega) (by omega) (gx.below (hs'.mono hB)))
      have HTK := Lib.hid htk
      have HBD : Hid ((H ++ wrs (l.take j)).length + (wri (l[j]'hjl)).length ≤ 140737488355328) := by show _ ≤ _; rw [List.length_append]; omega
      generalize wri (l[j]'hjl) = WX at *
      clear g0 g1 g2 g3 gx hs hs' htk htl hll hpg
      go_wp2_with fail
      refine C1.out.mono ?_
      rintro e w2 ⟨v2, rfl, ho2, hb2⟩
      obtain ⟨A2, cp2, rfl, hc2, hc3, hr2⟩ := ho2.rd
      have HR2 := Lib.hid hr2
      have HB2 := Lib.hid hb2
      have HZ2 : Hid (w.heap.size + 1 ≤ w2.heap.size) := Nat.le_trans hsz hb2.size
      clear ho2 hr2 hb2 hb3 hb0 e0 e1 e2 e3
      go_wp2_with (first
        | (at_builtin; refine wpList_appB rfl (.tmp 45) (.tmp 51) 22 rfl (w.heap.size + 1) 5 Tryz.underlying22 info_u8 _ _ rfl (hob.out.below HB2.out) _ _ _ _ _ rfl HR2.out HBD.out HZ2.out ?_; intro v3 w3 ho3 hb3; have O3 := Lib.hid ho3; have B3 := Lib.hid hb3; clear ho3 hb3)
        | fail)
      go_roundw
      case rel => exact ⟨j + 1, by omega, by go_num, by show Ob _ _ _ _ _; rw [HTK.out, ← List.append_assoc]; exact O3.out, (hbel.out.trans (HB2.out.mono hsz)).trans B3.out⟩
      case measure => simp [intOf]; omega
    · obtain rfl : j = N := by omega
      have hfin := hob.out
      rw [List.take_of_length_le (by rw [HL.out]; exact Nat.le_refl _)] at hfin
      have HF := Lib.hid hfin
      have HS := Lib.hid (((Below.refl w.heap.size w).alloc (Nat.le_refl _) _).trans (hbel.out.mono (by omega)))
      clear hfin
      go_wp2_with (first
        | (at_builtin; refine wpList_appB rfl (.tmp 56) (.tmp 57) 22 rfl (w.heap.size + 1) 5 Tryz.underlying22 info_u8 _ _ rfl (HF.out.alloc _) _ _ 1 1 [0xff] rfl (Rd.lit wr _ rfl [0xff] _ _ rfl 1 rfl) HFIN.out (Nat.le_trans hsz (le_alloc _ _)) ?_; intro v3 w3 ho3 hb3; have O3 := Lib.hid ho3; have B3 := Lib.hid hb3; clear ho3 hb3)
        | fail)
      go_ret
      exact ⟨_, rfl, O3.out.weak (Nat.le_succ _), (HS.out.alloc (by omega) _).trans (B3.out.mono (Nat.le_succ _))⟩

set_option maxRecDepth 100000 in
set_option maxHeartbeats 1000000 in
theorem rwrite_uint (n : Nat) (nd cd cl N : Nat) (A AL : Option Addr) (w : World) (hn : n < 18446744073709551616) :
    Calls Tryz.prog 69 #[.agg #[.int .i64 0, .int .u64 (n : Int), .slice A nd cd, .slice AL N cl]] w (GivesO 5 (hd 0 n) w) := by
  have C1 := Lib.hid (fun W => rhead_any 0 n W (by decide) hn)
  have HH : headB 0 n = hd 0 n := by rw [headB, if_neg (by decide)]; rfl
  rw [HH] at C1
  generalize hd 0 n = H at *
  clear HH
  go_enter Tryz.func69, Tryz.ntmps69
  go_wp2_with fail
  refine (C1.out _).mono ?_
  rintro e w1 ⟨v, rfl, ho, hb⟩
  have HO := Lib.hid ho
  have HB := Lib.hid hb
  clear ho hb
  go_wp2_with fail
  go_ret
  exact ⟨_, rfl, HO.out.weak (le_alloc _ _), ((Below.refl _ _).alloc (Nat.le_refl _) _).trans (HB.out.mono (le_alloc _ _))⟩

theorem rwrite_n : ∀ m : Nat, WriteIH m
  | 0 => fun _ _ _ _ h _ _ _ _ => absurd h (Nat.not_lt_zero _)
  | m + 1 => by
    intro x v w B hm hr hlen hB h
    obtain ⟨k, n, d, l⟩ := x
    obtain ⟨A, nd, cd, AL, cl, rfl, h1, h2, h3, h4, h5, h7⟩ := h.open
    rw [right, Bool.and_eq_true] at hr
    rw [par] at hm
    rcases own_kind hr.1 with ⟨rfl, rfl, rfl⟩ | ⟨rfl, rfl, rfl⟩ | ⟨rfl, rfl, rfl, hpl⟩ | ⟨rfl, rfl, rfl⟩ | ⟨rfl, rfl, rfl⟩
    · have e : wri (.mk 0 n [] []) = hd 0 n := by rw [wri, if_pos rfl]
      rw [e]
      exact rwrite_uint n nd cd cl _ A AL w h2
    · exact rwrite_text 2 (.inl rfl) nd cd cl B A AL d w hB h4 h3.1 hlen
    · exact rwrite_text 3 (.inr rfl) nd cd cl B A AL d w hB h4 h3.1 hlen
    · have e : wri (.mk 4 0 [] l) = hd 4 l.length ++ wrs l := by rw [wri, if_neg (by decide), if_neg (by decide), if_pos rfl]
      rw [e] at hlen ⊢
      exact rwrite_arr4 m l.length nd cd cl B A AL l w hm hB hlen hr.2 h5 (rwrite_n m) h7 rfl
    · have e : wri (.mk 5 0 [] l) = 0x9f :: (wrs l ++ [0xff]) := by rw [wri, if_neg (by decide), if_neg (by decide), if_neg (by decide)]
      rw [e] at hlen ⊢
      exact rwrite_arr5 m l.length nd cd cl B A AL l w hm hB hlen hr.2 h5 (rwrite_n m) h7 rfl
end Go.Proofs.YtbdjkihgcmebgaaGreatDoor
