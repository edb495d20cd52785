/- What Put of layer 1's reference, and Head of layer 3's, return: slices of the call's own. -/
import Derived.Test.YtanbjifdcplmnaaGreatDoorRCborR
import Derived.Test.YtanbjifdcplmnaaGreatDoorRNumB
import Derived.Test.YtanbjifdcplmnaaGreatDoorRNumG
import Derived.Deep.RegionHeld3
namespace Go.Proofs.YtanbjifdcplmnaaGreatDoor
open Go.RowKit

/-- A call gives back a slice of its own that reads as l, and leaves what was there. -/
def GivesO (t : TypeId) (l : List UInt8) (w : World) (e : Ending) (w' : World) : Prop := ∃ v, e = .returned v ∧ Ob w' w.heap.size t v l ∧ Below w.heap.size w w'

theorem be_take (x n k : Nat) (hk : k < n) : (be x n).take (k + 1) = (be x n).take k ++ [UInt8.ofNat (x / 256 ^ (n - 1 - k))] := by
  rw [take_more _ _ (by rw [be_length]; exact hk)]
  simp [be, List.getD, hk]
theorem one_byte (x : Int) (h0 : 0 ≤ x) (s : Nat) : #[Value.int .u8 (x / 2 ^ (8 * s) % 256)] = (([UInt8.ofNat (x.toNat / 256 ^ s)] : List UInt8).map fun u => Value.int .u8 (u.toNat : Int)).toArray := by
  rw [byte_at_pow x h0 s]; rfl

set_option maxRecDepth 100000 in
set_option maxHeartbeats 1000000 in
theorem rput_any (x : Int) (n : Nat) (w : World) (hx0 : 0 ≤ x) (_hx1 : x < 18446744073709551616) (hn : n ≤ 8) :
    Calls Tryz.prog 106 #[.int .u64 x, .int .i64 (n : Int)] w (GivesO 5 (be x.toNat n) w) := by
  rcases Nat.eq_zero_or_pos n with h0 | h0
  · subst h0
    go_enter Tryz.func106, Tryz.ntmps106
    go_wp2
    go_ret
    exact ⟨_, rfl, Ob.nil_ _ _ _, Below.refl _ _⟩
  · go_enter Tryz.func106, Tryz.ntmps106
    go_wp2
    go_loopw [5, 6] (fun v i wr => ∃ r : Nat, r ≤ n ∧ i = .int .i64 ((r : Int) - 1) ∧ Hid (Ob wr w.heap.size 5 v ((be x.toNat n).take (n - r))) ∧ Hid (Below w.heap.size w wr)) (fun _ i _ => ((intOf i) + 1).toNat)
    case atStart => exact ⟨n, Nat.le_refl _, rfl, by rw [Nat.sub_self, List.take_zero]; exact Ob.nil_ _ _ _, Below.refl _ _⟩
    case round =>
      obtain ⟨r, hr, rfl, hob, hbel⟩ := hrel
      by_cases hlt : 0 < r
      · obtain ⟨q, rfl⟩ : ∃ q, r = q + 1 := ⟨r - 1, by omega⟩
        obtain ⟨X, hX⟩ : ∃ X, X = UInt8.ofNat (x.toNat / 256 ^ q) := ⟨_, rfl⟩
        have hbd : ((be x.toNat n).take (n - (q + 1))).length + 1 ≤ 140737488355328 := by rw [List.length_take, be_length]; omega
        have HBD := Lib.hid hbd
        have hbz : w.heap.size ≤ wr.heap.size := hbel.out.size
        have HBZ := Lib.hid hbz
        have HX := Lib.hid hX
        have e1 : ((q + 1 : Nat) : Int) - 1 = (q : Int) := by omega
        rw [e1]
        clear hX hbd hbz e1
        go_wp2_with (first
          | (at_builtin; refine wpList_appB rfl (.tmp 17) (.tmp 24) 22 rfl w.heap.size 5 Tryz.underlying22 info_u8 _ _ rfl (hob.out.alloc _) _ _ 1 1 [X] rfl (Rd.lit wr _ rfl [X] _ _ (by rw [HX.out]; exact one_byte x hx0 q) 1 rfl) HBD.out (Nat.le_trans HBZ.out (le_alloc _ _)) ?_; intro v1 w1 ho1 hb1; have O1 := Lib.hid ho1; have B1 := Lib.hid hb1; clear ho1 hb1)
          | fail)
        go_roundw
        case rel =>
          refine ⟨q, by omega, rfl, ?_, (((hbel.out).alloc HBZ.out _).trans B1.out)⟩
          have e := be_take x.toNat n (n - (q + 1)) (by omega)
          rw [show n - (q + 1) + 1 = n - q by omega, show n - 1 - (n - (q + 1)) = q by omega, ← HX.out] at e
          show Ob _ _ _ _ _
          rw [e]
          exact O1.out
        case measure => simp [intOf]
      · obtain rfl : r = 0 := by omega
        have ho := hob.out
        rw [Nat.sub_zero, List.take_of_length_le (by rw [be_length]; exact Nat.le_refl _)] at ho
        have HO := Lib.hid ho
        clear ho
        go_wp2_with fail
        go_ret
        exact ⟨_, rfl, HO.out, hbel.out⟩

/-- What Head answers. -/
def headB (m : Int) (n : Nat) : List UInt8 := if m < 0 ∨ 7 < m then [] else hd m.toNat n
theorem Ob.weak {w : World} {base base' : Nat} {t : TypeId} {v : Value} {l : List UInt8} (h : Ob w base t v l) (hb : base' ≤ base) : Ob w base' t v l :=
  ⟨h.1, h.2.imp id (fun ⟨g, cap, cur, h1, h2, h3⟩ => ⟨g, cap, cur, h1, Nat.le_trans hb h2, h3⟩)⟩
theorem Ob.rdn {w : World} {base n : Nat} {t : TypeId} {v : Value} {l : List UInt8} (h : Ob w base t v l) (hl : l.length = n) : ∃ (A : Option Addr) (c : Nat), v = .slice A n c ∧ n ≤ c ∧ c ≤ maxLen ∧ Rd w w.heap.size A n l := by
  subst hl
  exact h.rd
theorem head_one (m : Int) (h0 : 0 ≤ m) (h7 : m ≤ 7) (L : Nat) (hL : L ≤ 27) : #[Value.int .u8 (32 * m + (L : Int))] = (([UInt8.ofNat (32 * m.toNat + L)] : List UInt8).map fun u => Value.int .u8 (u.toNat : Int)).toArray := by
  obtain ⟨a, rfl⟩ := Int.eq_ofNat_of_zero_le h0
  simp only [Int.toNat_natCast, List.map_cons, List.map_nil]
  rw [byte_nat _ (by omega)]
  rw [Int.natCast_add, Int.natCast_mul]
  rfl

set_option maxRecDepth 100000 in
set_option maxHeartbeats 1000000 in
theorem rhead_any (m : Int) (n : Nat) (w : World) (_hm : (Lit.int .i64 m).wf = true) (hn : n < 18446744073709551616) :
    Calls Tryz.prog 83 #[.int .i64 m, .int .u64 (n : Int)] w (GivesO 5 (headB m n) w) := by
  by_cases h0 : m < 0
  · rw [headB, if_pos (.inl h0)]
    go_enter Tryz.func83, Tryz.ntmps83
    go_wp2_with fail
    go_ret
    exact ⟨_, rfl, Ob.nil_ _ _ _, Below.refl _ _⟩
  by_cases h7 : 7 < m
  · rw [headB, if_pos (.inr h7)]
    go_enter Tryz.func83, Tryz.ntmps83
    go_wp2_with fail
    go_ret
    exact ⟨_, rfl, Ob.nil_ _ _ _, Below.refl _ _⟩
  · rw [headB, if_neg (by omega), hd]
    have hm0 : 0 ≤ m := by omega
    have hm7 : m ≤ 7 := by omega
    have C1 := Lib.hid (rsize_any n w hn)
    have hl := hlow_le n
    have hz := hsz_le n
    have c2 := fun W => rput_any (n : Int) (hsz n) W (by omega) (by omega) hz
    rw [Int.toNat_natCast] at c2
    have C2 := Lib.hid c2
    clear c2
    have HL := Lib.hid (be_length n (hsz n))
    generalize hsz n = S at *
    generalize hlow n = L at *
    have H1 := Lib.hid (head_one m hm0 hm7 L hl)
    clear h0 h7
    go_enter Tryz.func83, Tryz.ntmps83
    go_wp2_with fail
    refine C1.out.mono ?_
    rintro e w1 ⟨rfl, rfl⟩
    go_wp2_with fail
    refine (C2.out _).mono ?_
    rintro e w1 ⟨v, rfl, ho, hb⟩
    obtain ⟨A, c, rfl, hc, hc2, hr⟩ := ho.rdn HL.out
    have HR := Lib.hid hr
    have HB := Lib.hid hb
    clear ho hr hb
    go_wp2_with (first
      | (at_builtin; go_loud (refine wpList_appB rfl (.tmp 23) (.tmp 26) 22 rfl w.heap.size 5 Tryz.underlying22 info_u8 _ _ rfl ((Ob.lit w [UInt8.ofNat (32 * m.toNat + L)] _ H1.out (Nat.le_refl _) 1 rfl (by decide)).below HB.out) _ _ _ _ _ rfl HR.out (by simp; omega) (Nat.le_trans (le_alloc _ _) HB.out.size) ?_; intro v1 w2 ho1 hb1; have O1 := Lib.hid ho1; have B1 := Lib.hid hb1; clear ho1 hb1))
      | fail)
    go_ret
    exact ⟨_, rfl, O1.out, (((Below.refl _ _).alloc (Nat.le_refl _) _).trans (HB.out.mono (le_alloc _ _))).trans B1.out⟩
end Go.Proofs.YtanbjifdcplmnaaGreatDoor
/- What write of layer 3's reference returns, of a right item. What write of layer 3's reference returns, of every right item. -/
namespace Go.Proofs.YtanbjifdcplmnaaGreatDoor
open Go.RowKit

section
variable {P : Program} {w : World}
/-- append at a step of a region that draws its order. -/
theorem step_appB {ops : Array Oper} {o : Oper} {a : Act} {K : Act → World → Prop} {Q : Exit → Act → World → Prop} {E : Prop} (hgd : o.guard = none) (s x : Operand) (t : TypeId)
    (ho : o.op = .call { callee := .builtin .append, args := #[s, x], argTypes := #[t, t] })
    (base : Nat) (e : TypeId) (ht : P.underlying t = some (.slice e)) (hinfo : (P.info? e).map (fun i => (i.zero, i.size, i.bytes)) = some (some (.int .u8 0), 1, 1))
    (v : Value) (l : List UInt8) (hs : a.eval s = v) (hown : Ob w base e v l) (B : Nat) (A : Option Addr) (m c : Nat) (news : List UInt8) (hx : a.eval x = .slice A m c) (hr : Rd w B A m news)
    (hbound : l.length + m ≤ 140737488355328) (hbase : base ≤ w.heap.size)
    (h : ∀ v' w', Ob w' base e v' (l ++ news) → Below base w w' → K (a.put o.dst v') w') : if Region.wanted o (yielded ops a.tmps) = true then Oper.wp P o a w K Q else E := by
  have hw : Region.wanted o (yielded ops a.tmps) = true := by simp [Region.wanted, hgd]
  rw [if_pos hw]
  obtain ⟨v', w', hrun, h2, h3, h4⟩ := run_app (P := P) w base t o.type e ht hinfo v l hown B A m c news hr hbound hbase
  unfold Oper.wp execOp
  simp only [ho, resolve, invoke, builtin, Sem.run_bind, Sem.run_pure, Result.andThen_ok, List.map_toArray, List.map_cons, List.map_nil, hs, hx, hrun]
  exact h v' w' h2 ⟨h3.os, h3.tape, h3.output, h3.size, fun k hk => h3.block k (by omega) (fun e => by have := (World.ownsRow.lt hown k e.symm).1; omega)⟩
end

set_option maxRecDepth 100000 in
set_option maxHeartbeats 600000 in
theorem rwrite_text (k : Int) (hk : k = 2 ∨ k = 3) (nd cd cl B : Nat) (A AL : Option Addr) (d : List UInt8) (w : World) (hB : B ≤ w.heap.size) (hrd : Rd w B A nd d) (_hc : nd ≤ cd) (hlen : (wri (.mk k 0 d [])).length ≤ 140737488355328) :
    Calls Tryz.prog 59 #[.agg #[.int .i64 k, .int .u64 0, .slice A nd cd, .slice AL 0 cl]] w (GivesO 5 (wri (.mk k 0 d [])) w) := by
  have e : wri (.mk k 0 d []) = hd k.toNat d.length ++ d := by rw [wri, if_neg (by omega), if_pos hk]
  rw [e] at hlen ⊢
  rw [hrd.1] at hlen ⊢
  have hl := hrd.1
  rw [List.length_append, hd_len, hl] at hlen
  have c1 := fun W => rhead_any k nd W (by rcases hk with rfl | rfl <;> decide) (by omega)
  have eh : headB k nd = hd k.toNat nd := by rw [headB, if_neg (by omega)]
  rw [eh] at c1
  have hw : IntKind.u64.wrap (nd : Int) = (nd : Int) := by rw [IntKind.wrap_u64]; omega
  have c2 := c1
  rw [← hw] at c2
  have C1 := Lib.hid c2
  clear hw c2
  have HL := Lib.hid (hd_len k.toNat nd)
  have hz := hsz_le nd
  have HD := Lib.hid hrd
  clear c1 eh e hrd hl
  generalize hd k.toNat nd = H at *
  generalize hsz nd = Z at *
  rcases hk with rfl | rfl
  · go_enter Tryz.func59, Tryz.ntmps59
    go_wp2_with fail
    have f0 : (w.alloc (.cells #[.int .i64 2, .int .u64 0, .slice A nd cd, .slice AL 0 cl] 37)).cell? ⟨w.heap.size, 0, none⟩ = some (.int .i64 2) := by simp
    have f2 : (w.alloc (.cells #[.int .i64 2, .int .u64 0, .slice A nd cd, .slice AL 0 cl] 37)).cell? ⟨w.heap.size, 2, none⟩ = some (.slice A nd cd) := by simp
    have FB := Lib.hid ((Below.refl w.heap.size w).alloc (Nat.le_refl _) (.cells #[.int .i64 2, .int .u64 0, .slice A nd cd, .slice AL 0 cl] 37))
    have FZ : Hid (w.heap.size + 1 ≤ (w.alloc (.cells #[.int .i64 2, .int .u64 0, .slice A nd cd, .slice AL 0 cl] 37)).heap.size) := (by simp : _ ≤ _)
    generalize w.alloc (.cells #[.int .i64 2, .int .u64 0, .slice A nd cd, .slice AL 0 cl] 37) = W0 at *
    have hB0 := Lib.hid hB
    clear hB
    go_region_held3 (fun W => W.cell? ⟨w.heap.size, 0, none⟩ = some (.int .i64 2) ∧ W.cell? ⟨w.heap.size, 2, none⟩ = some (.slice A nd cd))
      (first | (exact ⟨f0, f2⟩) | (exact ⟨(HB.out.cell (p := ⟨w.heap.size, 0, none⟩) FZ.out).trans f0, (HB.out.cell (p := ⟨w.heap.size, 2, none⟩) FZ.out).trans f2⟩) | (exact ⟨(B1.out.cell (p := ⟨w.heap.size, 0, none⟩) (Nat.lt_succ_self _)).trans ((HB.out.cell (p := ⟨w.heap.size, 0, none⟩) FZ.out).trans f0), (B1.out.cell (p := ⟨w.heap.size, 2, none⟩) (Nat.lt_succ_self _)).trans ((HB.out.cell (p := ⟨w.heap.size, 2, none⟩) FZ.out).trans f2)⟩) | fail)
      (first
        | (go_at_call 83; refine (C1.out _).mono ?_; rintro e w1 ⟨v, rfl, ho, hb⟩; have HO := Lib.hid ho; have HB := Lib.hid (((Below.refl W0.heap.size W0).drew).trans hb); clear ho hb)
        | (refine step_appB (by rfl) (.tmp 25) (.tmp 27) 22 (by rfl) (w.heap.size + 1) 5 Tryz.underlying22 info_u8 _ H (by rfl) (HO.out.weak FZ.out) B A nd cd d (by rfl) ((HD.out.below (FB.out.mono hB0.out)).below (HB.out.mono (Nat.le_trans hB0.out (Nat.le_trans (Nat.le_succ _) FZ.out)))) (by rw [HL.out]; omega) (Nat.le_trans FZ.out HB.out.size) ?_; intro v1 w2 ho1 hb1; have O1 := Lib.hid ho1; have B1 := Lib.hid hb1; clear ho1 hb1)
        | fail)
    go_wp2_with fail
    go_ret
    exact ⟨_, rfl, O1.out.weak (Nat.le_succ _), (FB.out.trans (HB.out.mono (Nat.le_trans (Nat.le_succ _) FZ.out))).trans (B1.out.mono (Nat.le_succ _))⟩
  · go_enter Tryz.func59, Tryz.ntmps59
    go_wp2_with fail
    have f0 : (w.alloc (.cells #[.int .i64 3, .int .u64 0, .slice A nd cd, .slice AL 0 cl] 37)).cell? ⟨w.heap.size, 0, none⟩ = some (.int .i64 3) := by simp
    have f2 : (w.alloc (.cells #[.int .i64 3, .int .u64 0, .slice A nd cd, .slice AL 0 cl] 37)).cell? ⟨w.heap.size, 2, none⟩ = some (.slice A nd cd) := by simp
    have FB := Lib.hid ((Below.refl w.heap.size w).alloc (Nat.le_refl _) (.cells #[.int .i64 3, .int .u64 0, .slice A nd cd, .slice AL 0 cl] 37))
    have FZ : Hid (w.heap.size + 1 ≤ (w.alloc (.cells #[.int .i64 3, .int .u64 0, .slice A nd cd, .slice AL 0 cl] 37)).heap.size) := (by simp : _ ≤ _)
    generalize w.alloc (.cells #[.int .i64 3, .int .u64 0, .slice A nd cd, .slice AL 0 cl] 37) = W0 at *
    have hB0 := Lib.hid hB
    clear hB
    go_region_held3 (fun W => W.cell? ⟨w.heap.size, 0, none⟩ = some (.int .i64 3) ∧ W.cell? ⟨w.heap.size, 2, none⟩ = some (.slice A nd cd))
      (first | (exact ⟨f0, f2⟩) | (exact ⟨(HB.out.cell (p := ⟨w.heap.size, 0, none⟩) FZ.out).trans f0, (HB.out.cell (p := ⟨w.heap.size, 2, none⟩) FZ.out).trans f2⟩) | (exact ⟨(B1.out.cell (p := ⟨w.heap.size, 0, none⟩) (Nat.lt_succ_self _)).trans ((HB.out.cell (p := ⟨w.heap.size, 0, none⟩) FZ.out).trans f0), (B1.out.cell (p := ⟨w.heap.size, 2, none⟩) (Nat.lt_succ_self _)).trans ((HB.out.cell (p := ⟨w.heap.size, 2, none⟩) FZ.out).trans f2)⟩) | fail)
      (first
        | (go_at_call 83; refine (C1.out _).mono ?_; rintro e w1 ⟨v, rfl, ho, hb⟩; have HO := Lib.hid ho; have HB := Lib.hid (((Below.refl W0.heap.size W0).drew).trans hb); clear ho hb)
        | (refine step_appB (by rfl) (.tmp 25) (.tmp 27) 22 (by rfl) (w.heap.size + 1) 5 Tryz.underlying22 info_u8 _ H (by rfl) (HO.out.weak FZ.out) B A nd cd d (by rfl) ((HD.out.below (FB.out.mono hB0.out)).below (HB.out.mono (Nat.le_trans hB0.out (Nat.le_trans (Nat.le_succ _) FZ.out)))) (by rw [HL.out]; omega) (Nat.le_trans FZ.out HB.out.size) ?_; intro v1 w2 ho1 hb1; have O1 := Lib.hid ho1; have B1 := Lib.hid hb1; clear ho1 hb1)
        | fail)
    go_wp2_with fail
    go_ret
    exact ⟨_, rfl, O1.out.weak (Nat.le_succ _), (FB.out.trans (HB.out.mono (Nat.le_trans (Nat.le_succ _) FZ.out))).trans (B1.out.mono (Nat.le_succ _))⟩

theorem wrs_app : ∀ (a b : List Itm), wrs (a ++ b) = wrs a ++ wrs b
  | [], b => by rw [wrs]; rfl
  | x :: r, b => by rw [List.cons_append, wrs, wrs, wrs_app r b, List.append_assoc]
theorem wrs_take (l : List Itm) (j : Nat) (h : j < l.length) : wrs (l.take (j + 1)) = wrs (l.take j) ++ wri (l[j]'h) := by
  rw [List.take_succ_eq_append_getElem h, wrs_app, wrs, wrs, List.append_nil]
theorem wrs_take_len (l : List Itm) (j : Nat) : (wrs (l.take j)).length ≤ (wrs l).length := by
  conv => rhs; rw [← List.take_append_drop j l, wrs_app, List.length_append]
  omega
theorem right_get : ∀ {l : List Itm}, rights l = true → ∀ {i : Nat} (hi : i < l.length), right (l[i]'hi) = true
  | [], _, _, hi => absurd hi (Nat.not_lt_zero _)
  | x :: r, h, 0, _ => by rw [rights, Bool.and_eq_true] at h; exact h.1
  | x :: r, h, i + 1, hi => by rw [rights, Bool.and_eq_true] at h; exact right_get h.2 (i := i) (by simpa using hi)

theorem le_one (w : World) (o : Obj) : w.heap.size + 1 ≤ (w.alloc o).heap.size := by simp
/-- The call of write on each smaller item. -/
def WriteIH (m : Nat) : Prop := ∀ (x : Itm) (v : Value) (w : World) (B : Nat), par x < m → right x = true → (wri x).length ≤ 140737488355328 → B ≤ w.heap.size → RdI w B v x →
    Calls Tryz.prog 59 #[v] w (GivesO 5 (wri x) w)

set_option maxRecDepth 100000 in
set_option maxHeartbeats 4000000 in
theorem rwrite_arr4 (m N nd cd cl B : Nat) (A AL : Option Addr) (l : List Itm) (w : World) (hm : 1 + pars l < m + 1) (hB : B ≤ w.heap.size) (hlen : (hd 4 N ++ wrs l).length ≤ 140737488355328) (hrt : rights l = true) (h5 : N ≤ cl ∧ N ≤ 140737488355328)
    (IH : Hid (WriteIH m)) (H7 : Hid (0 < N → ∃ b o, AL = some ⟨b, o, none⟩ ∧ b < B ∧ RdIs w B b o l)) (HL : Hid (l.length = N)) :
    Calls Tryz.prog 59 #[.agg #[.int .i64 4, .int .u64 0, .slice A nd cd, .slice AL N cl]] w (GivesO 5 (hd 4 N ++ wrs l) w) := by
  have C1 := Lib.hid (fun W => rhead_any 4 N W (by decide) (by omega))
  have HH : Hid (headB 4 N = hd 4 N) := by show _ = _; rw [headB, if_neg (by decide)]; rfl
  obtain ⟨H, hH⟩ : ∃ H, H = hd 4 N := ⟨_, rfl⟩
  rw [← hH] at hlen ⊢
  rw [HH.out, ← hH] at C1
  rw [List.length_append] at hlen
  have HRT := Lib.hid hrt
  have HLEN := Lib.hid hlen
  clear hrt hlen HH hH
  go_enter Tryz.func59, Tryz.ntmps59
  go_wp2_with fail
  refine (C1.out _).mono ?_
  rintro e w1 ⟨v, rfl, ho, hb⟩
  have HO := Lib.hid ho
  have HB := Lib.hid hb
  clear ho hb
  go_wp2_with fail
  go_loopw [3, 4] (fun bv i wr => ∃ j : Nat, j ≤ N ∧ i = .int .i64 j ∧ Hid (Ob wr (w.heap.size + 1) 5 bv (H ++ wrs (l.take j))) ∧ Hid (Below (w.heap.size + 1) (w.alloc (.cells #[.int .i64 4, .int .u64 0, .slice A nd cd, .slice AL N cl] 37)) wr))
    (fun _ i _ => N - (intOf i).toNat)
  case atStart => exact ⟨0, Nat.zero_le _, rfl, by show Ob _ _ _ _ _; rw [List.take_zero, wrs, List.append_nil]; exact HO.out.weak (by simp), ((Below.refl _ _).alloc (by simp) _).trans (HB.out.mono (by simp))⟩
  case round =>
    obtain ⟨j, hj, rfl, hob, hbel⟩ := hrel
    have hb3 : wr.cell? ⟨w.heap.size, 3, none⟩ = some (.slice AL N cl) := (hbel.out.cell (p := ⟨w.heap.size, 3, none⟩) (by simp)).trans (by simp)
    have hb0 : wr.cell? ⟨w.heap.size, 0, none⟩ = some (.int .i64 4) := (hbel.out.cell (p := ⟨w.heap.size, 0, none⟩) (by simp)).trans (by simp)
    have hsz : w.heap.size + 1 ≤ wr.heap.size := by have := hbel.out.size; simpa using this
    by_cases hlt : j < N
    · obtain ⟨b, o, rfl, hb, hs⟩ := H7.out (by omega)
      obtain ⟨c0, c1, c2, c3, g0, g1, g2, g3, gx⟩ := hs.get j (by rw [HL.out]; exact hlt)
      have hs' : Below w.heap.size w wr := ((Below.refl _ _).alloc (Nat.le_refl _) _).trans (hbel.out.mono (by omega))
      have e0 : wr.cell? ⟨b, o + j * 4, none⟩ = some c0 := (hs'.cell (p := ⟨b, o + j * 4, none⟩) (by show b < _; omega)).trans g0
      have e1 : wr.cell? ⟨b, o + j * 4 + 1, none⟩ = some c1 := (hs'.cell (p := ⟨b, o + j * 4 + 1, none⟩) (by show b < _; omega)).trans g1
      have e2 : wr.cell? ⟨b, o + j * 4 + 2, none⟩ = some c2 := (hs'.cell (p := ⟨b, o + j * 4 + 2, none⟩) (by show b < _; omega)).trans g2
      have e3 : wr.cell? ⟨b, o + j * 4 + 3, none⟩ = some c3 := (hs'.cell (p := ⟨b, o + j * 4 + 3, none⟩) (by show b < _; omega)).trans g3
      have hjl : j < l.length := by rw [HL.out]; exact hlt
      have htk := wrs_take l j hjl
      have htl := wrs_take_len l (j + 1)
      have hpg : par (l[j]'hjl) ≤ pars l := par_get _
      rw [htk, List.length_append] at htl
      have hll := HLEN.out
      have C1 := Lib.hid (IH.out (l[j]'hjl) _ wr B (by omega) (right_get HRT.out hjl) (by omega) (by omega) (gx.below (hs'.mono hB)))
      have HTK := Lib.hid htk
      have HBD : Hid ((H ++ wrs (l.take j)).length + (wri (l[j]'hjl)).length ≤ 140737488355328) := by show _ ≤ _; rw [List.length_append]; omega
      generalize wri (l[j]'hjl) = WX at *
      clear g0 g1 g2 g3 gx hs hs' htk htl hll hpg
      go_wp2_with fail
      refine C1.out.mono ?_
      rintro e w2 ⟨v2, rfl, ho2, hb2⟩
      obtain ⟨A2, cp2, rfl, hc2, hc3, hr2⟩ := ho2.rd
      have HR2 := Lib.hid hr2
      have HB2 := Lib.hid hb2
      have HZ2 : Hid (w.heap.size + 1 ≤ w2.heap.size) := Nat.le_trans hsz hb2.size
      clear ho2 hr2 hb2 hb3 hb0 e0 e1 e2 e3
      go_wp2_with (first
        | (at_builtin; refine wpList_appB rfl (.tmp 45) (.tmp 51) 22 rfl (w.heap.size + 1) 5 Tryz.underlying22 info_u8 _ _ rfl (hob.out.below HB2.out) _ _ _ _ _ rfl HR2.out HBD.out HZ2.out ?_; intro v3 w3 ho3 hb3; have O3 := Lib.hid ho3; have B3 := Lib.hid hb3; clear ho3 hb3)
        | fail)
      go_roundw
      case rel => exact ⟨j + 1, by omega, by go_num, by show Ob _ _ _ _ _; rw [HTK.out, ← List.append_assoc]; exact O3.out, (hbel.out.trans (HB2.out.mono hsz)).trans B3.out⟩
      case measure => simp [intOf]; omega
    · obtain rfl : j = N := by omega
      have hfin := hob.out
      rw [List.take_of_length_le (by rw [HL.out]; exact Nat.le_refl _)] at hfin
      have HF := Lib.hid hfin
      have HS := Lib.hid (((Below.refl w.heap.size w).alloc (Nat.le_refl _) _).trans (hbel.out.mono (by omega)))
      clear hfin
      go_wp2_with fail
      go_ret
      exact ⟨_, rfl, HF.out.weak (Nat.le_succ _), HS.out⟩

set_option maxRecDepth 100000 in
set_option maxHeartbeats 4000000 in
theorem rwrite_arr5 (m N nd cd cl B : Nat) (A AL : Option Addr) (l : List Itm) (w : World) (hm : 1 + pars l < m + 1) (hB : B ≤ w.heap.size) (hlen : (0x9f :: (wrs l ++ [0xff])).length ≤ 140737488355328) (hrt : rights l = true) (h5 : N ≤ cl ∧ N ≤ 140737488355328)
    (IH : Hid (WriteIH m)) (H7 : Hid (0 < N → ∃ b o, AL = some ⟨b, o, none⟩ ∧ b < B ∧ RdIs w B b o l)) (HL : Hid (l.length = N)) :
    Calls Tryz.prog 59 #[.agg #[.int .i64 5, .int .u64 0, .slice A nd cd, .slice AL N cl]] w (GivesO 5 (0x9f :: (wrs l ++ [0xff])) w) := by
  obtain ⟨H, hH⟩ : ∃ H : List UInt8, H = [0x9f] := ⟨_, rfl⟩
  have hH1 : H.length = 1 := by rw [hH]; rfl
  have eq : 0x9f :: (wrs l ++ [0xff]) = (H ++ wrs l) ++ [0xff] := by rw [hH]; rfl
  rw [eq] at hlen ⊢
  rw [List.length_append, List.length_append] at hlen
  simp only [List.length_cons, List.length_nil] at hlen
  have HRT := Lib.hid hrt
  have HLEN : Hid (H.length + (wrs l).length ≤ 140737488355328) := by show _ ≤ _; omega
  have HFIN : Hid ((H ++ wrs l).length + 1 ≤ 140737488355328) := by show _ ≤ _; rw [List.length_append]; omega
  have HH := Lib.hid hH
  clear hrt hlen hH hH1 eq
  go_enter Tryz.func59, Tryz.ntmps59
  go_wp2_with fail
  go_loopw [3, 4] (fun bv i wr => ∃ j : Nat, j ≤ N ∧ i = .int .i64 j ∧ Hid (Ob wr (w.heap.size + 1) 5 bv (H ++ wrs (l.take j))) ∧ Hid (Below (w.heap.size + 1) (w.alloc (.cells #[.int .i64 5, .int .u64 0, .slice A nd cd, .slice AL N cl] 37)) wr))
    (fun _ i _ => N - (intOf i).toNat)
  case atStart => exact ⟨0, Nat.zero_le _, rfl, by show Ob _ _ _ _ _; rw [List.take_zero, wrs, List.append_nil, HH.out]; have h := Ob.lit (base := w.heap.size + 1) (t := 5) (w.alloc (.cells #[.int .i64 5, .int .u64 0, .slice A nd cd, .slice AL N cl] 37)) [0x9f] #[.int .u8 159] rfl (le_one _ _) 1 rfl (by decide); simpa using h, (Below.refl _ _).alloc (le_one _ _) _⟩
  case round =>
    obtain ⟨j, hj, rfl, hob, hbel⟩ := hrel
    have hb3 : wr.cell? ⟨w.heap.size, 3, none⟩ = some (.slice AL N cl) := (hbel.out.cell (p := ⟨w.heap.size, 3, none⟩) (by simp)).trans (by simp)
    have hb0 : wr.cell? ⟨w.heap.size, 0, none⟩ = some (.int .i64 5) := (hbel.out.cell (p := ⟨w.heap.size, 0, none⟩) (by simp)).trans (by simp)
    have hsz : w.heap.size + 1 ≤ wr.heap.size := by have := hbel.out.size; simpa using this
    by_cases hlt : j < N
    · obtain ⟨b, o, rfl, hb, hs⟩ := H7.out (by omega)
      obtain ⟨c0, c1, c2, c3, g0, g1, g2, g3, gx⟩ := hs.get j (by rw [HL.out]; exact hlt)
      have hs' : Below w.heap.size w wr := ((Below.refl _ _).alloc (Nat.le_refl _) _).trans (hbel.out.mono (by omega))
      have e0 : wr.cell? ⟨b, o + j * 4, none⟩ = some c0 := (hs'.cell (p := ⟨b, o + j * 4, none⟩) (by show b < _; omega)).trans g0
      have e1 : wr.cell? ⟨b, o + j * 4 + 1, none⟩ = some c1 := (hs'.cell (p := ⟨b, o + j * 4 + 1, none⟩) (by show b < _; omega)).trans g1
      have e2 : wr.cell? ⟨b, o + j * 4 + 2, none⟩ = some c2 := (hs'.cell (p := ⟨b, o + j * 4 + 2, none⟩) (by show b < _; omega)).trans g2
      have e3 : wr.cell? ⟨b, o + j * 4 + 3, none⟩ = some c3 := (hs'.cell (p := ⟨b, o + j * 4 + 3, none⟩) (by show b < _; omega)).trans g3
      have hjl : j < l.length := by rw [HL.out]; exact hlt
      have htk := wrs_take l j hjl
      have htl := wrs_take_len l (j + 1)
      have hpg : par (l[j]'hjl) ≤ pars l := par_get _
      rw [htk, List.length_append] at htl
      have hll := HLEN.out
      have C1 := Lib.hid (IH.out (l[j]'hjl) _ wr B (by omega) (right_get HRT.out hjl) (by omega) (by omega) (gx.below (hs'.mono hB)))
      have HTK := Lib.hid htk
      have HBD : Hid ((H ++ wrs (l.take j)).length + (wri (l[j]'hjl)).length ≤ 140737488355328) := by show _ ≤ _; rw [List.length_append]; omega
      generalize wri (l[j]'hjl) = WX at *
      clear g0 g1 g2 g3 gx hs hs' htk htl hll hpg
      go_wp2_with fail
      refine C1.out.mono ?_
      rintro e w2 ⟨v2, rfl, ho2, hb2⟩
      obtain ⟨A2, cp2, rfl, hc2, hc3, hr2⟩ := ho2.rd
      have HR2 := Lib.hid hr2
      have HB2 := Lib.hid hb2
      have HZ2 : Hid (w.heap.size + 1 ≤ w2.heap.size) := Nat.le_trans hsz hb2.size
      clear ho2 hr2 hb2 hb3 hb0 e0 e1 e2 e3
      go_wp2_with (first
        | (at_builtin; refine wpList_appB rfl (.tmp 45) (.tmp 51) 22 rfl (w.heap.size + 1) 5 Tryz.underlying22 info_u8 _ _ rfl (hob.out.below HB2.out) _ _ _ _ _ rfl HR2.out HBD.out HZ2.out ?_; intro v3 w3 ho3 hb3; have O3 := Lib.hid ho3; have B3 := Lib.hid hb3; clear ho3 hb3)
        | fail)
      go_roundw
      case rel => exact ⟨j + 1, by omega, by go_num, by show Ob _ _ _ _ _; rw [HTK.out, ← List.append_assoc]; exact O3.out, (hbel.out.trans (HB2.out.mono hsz)).trans B3.out⟩
      case measure => simp [intOf]; omega
    · obtain rfl : j = N := by omega
      have hfin := hob.out
      rw [List.take_of_length_le (by rw [HL.out]; exact Nat.le_refl _)] at hfin
      have HF := Lib.hid hfin
      have HS := Lib.hid (((Below.refl w.heap.size w).alloc (Nat.le_refl _) _).trans (hbel.out.mono (by omega)))
      clear hfin
      go_wp2_with (first
        | (at_builtin; refine wpList_appB rfl (.tmp 56) (.tmp 57) 22 rfl (w.heap.size + 1) 5 Tryz.underlying22 info_u8 _ _ rfl (HF.out.alloc _) _ _ 1 1 [0xff] rfl (Rd.lit wr _ rfl [0xff] _ _ rfl 1 rfl) HFIN.out (Nat.le_trans hsz (le_alloc _ _)) ?_; intro v3 w3 ho3 hb3; have O3 := Lib.hid ho3; have B3 := Lib.hid hb3; clear ho3 hb3)
        | fail)
      go_ret
      exact ⟨_, rfl, O3.out.weak (Nat.le_succ _), (HS.out.alloc (by omega) _).trans (B3.out.mono (Nat.le_succ _))⟩

set_option maxRecDepth 100000 in
set_option maxHeartbeats 1000000 in
theorem rwrite_uint (n : Nat) (nd cd cl N : Nat) (A AL : Option Addr) (w : World) (hn : n < 18446744073709551616) :
    Calls Tryz.prog 59 #[.agg #[.int .i64 0, .int .u64 (n : Int), .slice A nd cd, .slice AL N cl]] w (GivesO 5 (hd 0 n) w) := by
  have C1 := Lib.hid (fun W => rhead_any 0 n W (by decide) hn)
  have HH : headB 0 n = hd 0 n := by rw [headB, if_neg (by decide)]; rfl
  rw [HH] at C1
  generalize hd 0 n = H at *
  clear HH
  go_enter Tryz.func59, Tryz.ntmps59
  go_wp2_with fail
  refine (C1.out _).mono ?_
  rintro e w1 ⟨v, rfl, ho, hb⟩
  have HO := Lib.hid ho
  have HB := Lib.hid hb
  clear ho hb
  go_wp2_with fail
  go_ret
  exact ⟨_, rfl, HO.out.weak (le_alloc _ _), ((Below.refl _ _).alloc (Nat.le_refl _) _).trans (HB.out.mono (le_alloc _ _))⟩

theorem rwrite_n : ∀ m : Nat, WriteIH m
  | 0 => fun _ _ _ _ h _ _ _ _ => absurd h (Nat.not_lt_zero _)
  | m + 1 => by
    intro x v w B hm hr hlen hB h
    obtain ⟨k, n, d, l⟩ := x
    obtain ⟨A, nd, cd, AL, cl, rfl, h1, h2, h3, h4, h5, h7⟩ := h.open
    rw [right, Bool.and_eq_true] at hr
    rw [par] at hm
    rcases own_kind hr.1 with ⟨rfl, rfl, rfl⟩ | ⟨rfl, rfl, rfl⟩ | ⟨rfl, rfl, rfl, hpl⟩ | ⟨rfl, rfl, rfl⟩ | ⟨rfl, rfl, rfl⟩
    · have e : wri (.mk 0 n [] []) = hd 0 n := by rw [wri, if_pos rfl]
      rw [e]
      exact rwrite_uint n nd cd cl _ A AL w h2
    · exact rwrite_text 2 (.inl rfl) nd cd cl B A AL d w hB h4 h3.1 hlen
    · exact rwrite_text 3 (.inr rfl) nd cd cl B A AL d w hB h4 h3.1 hlen
    · have e : wri (.mk 4 0 [] l) = hd 4 l.length ++ wrs l := by rw [wri, if_neg (by decide), if_neg (by decide), if_pos rfl]
      rw [e] at hlen ⊢
      exact rwrite_arr4 m l.length nd cd cl B A AL l w hm hB hlen hr.2 h5 (rwrite_n m) h7 rfl
    · have e : wri (.mk 5 0 [] l) = 0x9f :: (wrs l ++ [0xff]) := by rw [wri, if_neg (by decide), if_neg (by decide), if_neg (by decide)]
      rw [e] at hlen ⊢
      exact rwrite_arr5 m l.length nd cd cl B A AL l w hm hB hlen hr.2 h5 (rwrite_n m) h7 rfl
end Go.Proofs.YtanbjifdcplmnaaGreatDoor
/- What Head of layer 3 returns. -/
namespace Go.Proofs.YtanbjifdcplmnaaGreatDoor
open Go.RowKit

/-- How far the search for a head's size has come. -/
def HdSt (n c S : Nat) : Prop := (c = 24 ∧ S = 1) ∨ (c = 25 ∧ S = 2 ∧ 256 ≤ n) ∨ (c = 26 ∧ S = 4 ∧ 65536 ≤ n) ∨ (c = 27 ∧ S = 8 ∧ 4294967296 ≤ n)
theorem HdSt.end_ {n c S : Nat} (h : HdSt n c S) (h24 : 24 ≤ n) (hd : 8 ≤ S ∨ n < 2 ^ (8 * S)) : c = hlow n ∧ S = hsz n := by
  unfold hlow hsz
  rcases h with ⟨rfl, rfl⟩ | ⟨rfl, rfl, h1⟩ | ⟨rfl, rfl, h1⟩ | ⟨rfl, rfl, h1⟩ <;> simp at hd
  · rw [if_neg (by omega), if_pos (by omega), if_neg (by omega), if_pos (by omega)]; exact ⟨rfl, rfl⟩
  · rw [if_neg (by omega), if_neg (by omega), if_pos (by omega), if_neg (by omega), if_neg (by omega), if_pos (by omega)]; exact ⟨rfl, rfl⟩
  · rw [if_neg (by omega), if_neg (by omega), if_neg (by omega), if_pos (by omega), if_neg (by omega), if_neg (by omega), if_neg (by omega), if_pos (by omega)]; exact ⟨rfl, rfl⟩
  · rw [if_neg (by omega), if_neg (by omega), if_neg (by omega), if_neg (by omega), if_neg (by omega), if_neg (by omega), if_neg (by omega), if_neg (by omega)]; exact ⟨rfl, rfl⟩
theorem HdSt.next {n c S : Nat} (h : HdSt n c S) (h8 : S < 8) (hd : 2 ^ (8 * S) ≤ n) : HdSt n (c + 1) (S * 2) := by
  unfold HdSt
  rcases h with ⟨rfl, rfl⟩ | ⟨rfl, rfl, h1⟩ | ⟨rfl, rfl, h1⟩ | ⟨rfl, rfl, h1⟩ <;> simp at hd <;> omega
theorem HdSt.bd {n c S : Nat} (h : HdSt n c S) : 24 ≤ c ∧ c ≤ 27 ∧ 1 ≤ S ∧ S ≤ 8 := by
  unfold HdSt at h; omega

theorem or_head (m : Int) (h0 : 0 ≤ m) (h7 : m ≤ 7) (L : Nat) (hL : L < 32) : bits BinOp.or IntKind.u8 (m * 32) (L : Int) = 32 * m + (L : Int) := by
  obtain ⟨a, rfl⟩ := Int.eq_ofNat_of_zero_le h0
  have e : ((a : Int) * 32) = ((2 ^ 5 * a : Nat) : Int) := by rw [Int.natCast_mul]; simp; omega
  rw [e, u8_or_nat _ _ (by omega) (by omega), ← Nat.two_pow_add_eq_or_of_lt (i := 5) (by omega)]
  omega

set_option maxRecDepth 100000 in
set_option maxHeartbeats 1000000 in
theorem khead_any (m : Int) (n : Nat) (w : World) (_hm : (Lit.int .i64 m).wf = true) (hn : n < 18446744073709551616) :
    Calls Tryz.prog 80 #[.int .i64 m, .int .u64 (n : Int)] w (GivesO 5 (headB m n) w) := by
  by_cases h0 : m < 0
  · rw [headB, if_pos (.inl h0)]
    go_enter Tryz.func80, Tryz.ntmps80
    go_wp2_with fail
    go_ret
    exact ⟨_, rfl, Ob.nil_ _ _ _, Below.refl _ _⟩
  by_cases h7 : 7 < m
  · rw [headB, if_pos (.inr h7)]
    go_enter Tryz.func80, Tryz.ntmps80
    go_wp2_with fail
    go_ret
    exact ⟨_, rfl, Ob.nil_ _ _ _, Below.refl _ _⟩
  rw [headB, if_neg (by omega), hd]
  have hm0 : 0 ≤ m := by omega
  have hm7 : m ≤ 7 := by omega
  clear h0 h7
  by_cases h24 : n < 24
  · have e1 : hlow n = n := by unfold hlow; rw [if_pos h24]
    have e2 : hsz n = 0 := by unfold hsz; rw [if_pos h24]
    rw [e1, e2, show be n 0 = [] from rfl]
    have H1 := Lib.hid (head_one m hm0 hm7 n (by omega))
    have H2 := Lib.hid (or_head m hm0 hm7 n (by omega))
    clear e1 e2
    generalize hX : ([UInt8.ofNat (32 * m.toNat + n)] : List UInt8) = X at *
    have HX : Hid (X.length = 1) := by rw [← hX]; rfl
    clear hX
    go_enter Tryz.func80, Tryz.ntmps80
    go_wp2_with fail
    rw [H2.out]
    go_ret
    exact ⟨_, rfl, Ob.lit w X _ H1.out (Nat.le_refl _) 1 HX.out (by decide), (Below.refl _ _).alloc (Nat.le_refl _) _⟩
  · have HS : Hid (24 ≤ n) := (by omega : _ ≤ _)
    obtain ⟨R, hR⟩ : ∃ q, q = hd m.toNat n := ⟨_, rfl⟩
    have e0 : UInt8.ofNat (32 * m.toNat + hlow n) :: be n (hsz n) = R := by rw [hR, hd]
    rw [e0]
    have HR := Lib.hid hR
    clear hR e0
    have hx0 : (0 : Int) ≤ (n : Int) := by omega
    go_enter Tryz.func80, Tryz.ntmps80
    go_wp2_with fail
    go_loopw [6, 7] (fun c s wr => ∃ C S : Nat, HdSt n C S ∧ c = .int .u8 (C : Int) ∧ s = .int .i64 (S : Int) ∧ wr = w) (fun _ s _ => 8 - (intOf s).toNat)
    case atStart => exact ⟨24, 1, .inl ⟨rfl, rfl⟩, rfl, rfl, rfl⟩
    case round =>
      obtain ⟨C, S, hst, rfl, rfl, rfl⟩ := hrel
      obtain ⟨b1, b2, b3, b4⟩ := hst.bd
      have HST := Lib.hid hst
      clear hst
      by_cases h8 : S < 8
      · have h8i : decide ((S : Int) < 8) = true := by simp; omega
        by_cases hdd : n < 2 ^ (8 * S)
        · have hq : (n : Int) / 2 ^ (8 * S) = 0 := by
            have : n / 2 ^ (8 * S) = 0 := Nat.div_eq_of_lt hdd
            exact_mod_cast this
          obtain ⟨E1, E2⟩ := HST.out.end_ HS.out (.inr hdd)
          have eR : [UInt8.ofNat (32 * m.toNat + C)] ++ be n S = R := by rw [HR.out, hd, E1, E2]; rfl
          have HE := Lib.hid eR
          have H1 := Lib.hid (head_one m hm0 hm7 C (by omega))
          have H2 := Lib.hid (or_head m hm0 hm7 C (by omega))
          have c2 := fun W => put_any (n : Int) (S : Int) W hx0 (by omega)
          rw [show psz (S : Int) = S by unfold psz; omega, Int.toNat_natCast] at c2
          have C2 := Lib.hid c2
          have HL := Lib.hid (be_length n S)
          clear E1 E2 eR c2
          go_wp2_with fail
          rw [H2.out]
          refine (C2.out _).mono ?_
          rintro e w1 ⟨rfl, hr, hb⟩
          have hr2 := hr.rd HL.out hr.lt
          rw [show (wr.alloc (.cells #[Value.int IntKind.u8 (32 * m + (C : Int))] 5)).heap.size = wr.heap.size + 1 by simp] at hr2
          have HR2 := Lib.hid hr2
          have HB := Lib.hid hb
          clear hr hr2 hb
          generalize be n S = L at *
          have HX : Hid (([UInt8.ofNat (32 * m.toNat + C)] : List UInt8).length = 1) := rfl
          generalize ([UInt8.ofNat (32 * m.toNat + C)] : List UInt8) = X at *
          go_wp2_with (first
            | (at_builtin; go_loud (refine wpList_appB rfl (.tmp 40) (.tmp 43) 22 rfl wr.heap.size 5 Tryz.underlying22 info_u8 _ _ rfl ((Ob.lit wr X _ H1.out (Nat.le_refl _) 1 HX.out (by decide)).below HB.out) _ _ _ _ _ rfl HR2.out (by rw [HX.out]; omega) (Nat.le_trans (le_alloc _ _) HB.out.size) ?_; intro v1 w2 ho1 hb1; have O1 := Lib.hid ho1; have B1 := Lib.hid hb1; clear ho1 hb1))
            | fail)
          go_ret
          exact ⟨_, rfl, by rw [← HE.out]; exact O1.out, (((Below.refl _ _).alloc (Nat.le_refl _) _).trans (HB.out.mono (le_alloc _ _))).trans B1.out⟩
        · have hq : ¬ (n : Int) / 2 ^ (8 * S) = 0 := by
            have : 0 < n / 2 ^ (8 * S) := Nat.div_pos (by omega) (Nat.pow_pos (by decide))
            intro h
            have h2 : n / 2 ^ (8 * S) = 0 := by exact_mod_cast h
            omega
          go_wp2_with fail
          go_roundw
          case rel => exact ⟨C + 1, S * 2, HST.out.next h8 (by omega), by go_num, by go_num, trivial⟩
          case measure => simp [intOf]; omega
      · have h8i : decide ((S : Int) < 8) = false := by simp; omega
        obtain ⟨E1, E2⟩ := HST.out.end_ HS.out (.inl (by omega))
        have eR : [UInt8.ofNat (32 * m.toNat + C)] ++ be n S = R := by rw [HR.out, hd, E1, E2]; rfl
        have HE := Lib.hid eR
        have H1 := Lib.hid (head_one m hm0 hm7 C (by omega))
        have H2 := Lib.hid (or_head m hm0 hm7 C (by omega))
        have c2 := fun W => put_any (n : Int) (S : Int) W hx0 (by omega)
        rw [show psz (S : Int) = S by unfold psz; omega, Int.toNat_natCast] at c2
        have C2 := Lib.hid c2
        have HL := Lib.hid (be_length n S)
        clear E1 E2 eR c2
        go_wp2_with fail
        rw [H2.out]
        refine (C2.out _).mono ?_
        rintro e w1 ⟨rfl, hr, hb⟩
        have hr2 := hr.rd HL.out hr.lt
        rw [show (wr.alloc (.cells #[Value.int IntKind.u8 (32 * m + (C : Int))] 5)).heap.size = wr.heap.size + 1 by simp] at hr2
        have HR2 := Lib.hid hr2
        have HB := Lib.hid hb
        clear hr hr2 hb
        generalize be n S = L at *
        have HX : Hid (([UInt8.ofNat (32 * m.toNat + C)] : List UInt8).length = 1) := rfl
        generalize ([UInt8.ofNat (32 * m.toNat + C)] : List UInt8) = X at *
        go_wp2_with (first
          | (at_builtin; go_loud (refine wpList_appB rfl (.tmp 40) (.tmp 43) 22 rfl wr.heap.size 5 Tryz.underlying22 info_u8 _ _ rfl ((Ob.lit wr X _ H1.out (Nat.le_refl _) 1 HX.out (by decide)).below HB.out) _ _ _ _ _ rfl HR2.out (by rw [HX.out]; omega) (Nat.le_trans (le_alloc _ _) HB.out.size) ?_; intro v1 w2 ho1 hb1; have O1 := Lib.hid ho1; have B1 := Lib.hid hb1; clear ho1 hb1))
          | fail)
        go_ret
        exact ⟨_, rfl, by rw [← HE.out]; exact O1.out, (((Below.refl _ _).alloc (Nat.le_refl _) _).trans (HB.out.mono (le_alloc _ _))).trans B1.out⟩
theorem chead_any (m : Int) (n : Nat) (w : World) (hm : (Lit.int .i64 m).wf = true) (hn : n < 18446744073709551616) :
    Calls Tryz.prog 80 #[.int .i64 m, .int .u64 (n : Int)] w (Gives (headB m n) w) := by
  refine (khead_any m n w hm hn).mono ?_
  rintro e w' ⟨v, rfl, ho, hb⟩
  obtain ⟨A, c, rfl, hc, _, hr⟩ := ho.rd
  exact ⟨A, _, c, rfl, ho.rd_.1 ▸ hr, hc, hb⟩
end Go.Proofs.YtanbjifdcplmnaaGreatDoor
