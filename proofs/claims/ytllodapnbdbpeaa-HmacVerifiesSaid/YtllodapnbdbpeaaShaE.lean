/- What Put, Get and Hex of layer 1's reference return. -/
import Derived.Test.YtllodapnbdbpeaaBase
import Derived.Test.YtllodapnbdbpeaaOwn
import Derived.Test.YtllodapnbdbpeaaNumB
import Derived.Deep.Draws
import Derived.RegionTactic
import Derived.Deep.RegionLawGrows
namespace Go.Proofs.Ytllodapnbdbpeaa
open Go.RowKit

/-- A call gives back a slice of its own that reads as l, and leaves what was there. -/
def GivesO (t : TypeId) (l : List UInt8) (w : World) (e : Ending) (w' : World) : Prop := ∃ v, e = .returned v ∧ Ob w' w.heap.size t v l ∧ Below w.heap.size w w'

theorem be_take (x n k : Nat) (hk : k < n) : (be x n).take (k + 1) = (be x n).take k ++ [UInt8.ofNat (x / 256 ^ (n - 1 - k))] := by
  rw [take_more _ _ (by rw [be_length]; exact hk)]
  simp [be, List.getD, hk]
theorem one_byte (x : Int) (h0 : 0 ≤ x) (s : Nat) : #[Value.int .u8 (x / 2 ^ (8 * s) % 256)] = (([UInt8.ofNat (x.toNat / 256 ^ s)] : List UInt8).map fun u => Value.int .u8 (u.toNat : Int)).toArray := by
  rw [byte_at_pow x h0 s]; rfl

set_option maxRecDepth 100000 in
set_option maxHeartbeats 1000000 in
theorem rput_any (x : Int) (n : Nat) (w : World) (hx0 : 0 ≤ x) (_hx1 : x < 18446744073709551616) (hn : n ≤ 8) :
    Calls Try.prog 23 #[.int .u64 x, .int .i64 (n : Int)] w (GivesO 5 (be x.toNat n) w) := by
  rcases Nat.eq_zero_or_pos n with h0 | h0
  · subst h0
    go_enter Try.func23, Try.ntmps23
    go_wp2
    go_ret
    exact ⟨_, rfl, Ob.nil_ _ _ _, Below.refl _ _⟩
  · go_enter Try.func23, Try.ntmps23
    go_wp2
    go_loopw [5, 6] (fun v i wr => ∃ r : Nat, r ≤ n ∧ i = .int .i64 ((r : Int) - 1) ∧ Hid (Ob wr w.heap.size 5 v ((be x.toNat n).take (n - r))) ∧ Hid (Below w.heap.size w wr)) (fun _ i _ => ((intOf i) + 1).toNat)
    case atStart => exact ⟨n, Nat.le_refl _, rfl, by rw [Nat.sub_self, List.take_zero]; exact Ob.nil_ _ _ _, Below.refl _ _⟩
    case round =>
      obtain ⟨r, hr, rfl, hob, hbel⟩ := hrel
      by_cases hlt : 0 < r
      · obtain ⟨q, rfl⟩ : ∃ q, r = q + 1 := ⟨r - 1, by omega⟩
        obtain ⟨X, hX⟩ : ∃ X, X = UInt8.ofNat (x.toNat / 256 ^ q) := ⟨_, rfl⟩
        have hbd : ((be x.toNat n).take (n - (q + 1))).length + 1 ≤ 140737488355328 := by rw [List.length_take, be_length]; omega
        have HBD := Lib.hid hbd
        have hbz : w.heap.size ≤ wr.heap.size := hbel.out.size
        have HBZ := Lib.hid hbz
        have HX := Lib.hid hX
        have e1 : ((q + 1 : Nat) : Int) - 1 = (q : Int) := by omega
        rw [e1]
        clear hX hbd hbz e1
        go_wp2_with (first
          | (at_builtin; refine wpList_appB rfl (.tmp 17) (.tmp 24) 22 rfl w.heap.size 5 Try.underlying22 info_u8 _ _ rfl (hob.out.alloc _) _ _ 1 1 [X] rfl (Rd.lit wr _ rfl [X] _ _ (by rw [HX.out]; exact one_byte x hx0 q) 1 rfl) HBD.out (Nat.le_trans HBZ.out (le_alloc _ _)) ?_; intro v1 w1 ho1 hb1; have O1 := Lib.hid ho1; have B1 := Lib.hid hb1; clear ho1 hb1)
          | fail)
        go_roundw
        case rel =>
          refine ⟨q, by omega, rfl, ?_, (((hbel.out).alloc HBZ.out _).trans B1.out)⟩
          have e := be_take x.toNat n (n - (q + 1)) (by omega)
          rw [show n - (q + 1) + 1 = n - q by omega, show n - 1 - (n - (q + 1)) = q by omega, ← HX.out] at e
          show Ob _ _ _ _ _
          rw [e]
          exact O1.out
        case measure => simp [intOf]
      · obtain rfl : r = 0 := by omega
        have ho := hob.out
        rw [Nat.sub_zero, List.take_of_length_le (by rw [be_length]; exact Nat.le_refl _)] at ho
        have HO := Lib.hid ho
        clear ho
        go_wp2_with fail
        go_ret
        exact ⟨_, rfl, HO.out, hbel.out⟩


set_option maxRecDepth 100000 in
set_option maxHeartbeats 1000000 in
theorem rget_any (A : Option Addr) (n c : Nat) (l : List UInt8) (w : World) (B : Nat) (h : Rd w B A n l) (hn : n ≤ 140737488355328) :
    Calls Try.prog 35 #[.slice A n c] w fun e w' => e = .returned (.int .u64 (beNat l : Int)) ∧ w = w' := by
  have HR := Lib.hid h
  clear h
  go_enter Try.func35, Try.ntmps35
  go_wp2
  go_loop [3, 4] (fun v i => ∃ (k d : Nat), k ≤ n ∧ i = .int .i64 k ∧ v = .int .u64 (d : Int) ∧ Hid (d = beNat (l.take k)) ∧ d < 18446744073709551616) (fun _ i => n - (intOf i).toNat)
  case atStart => exact ⟨0, 0, Nat.zero_le _, rfl, rfl, rfl, by decide⟩
  case round =>
    obtain ⟨k, d, hk, rfl, rfl, hd, hdl⟩ := hrel
    by_cases hlt : k < n
    · obtain ⟨b, o, rfl, hb, hcell⟩ := HR.out.2 (by omega)
      obtain ⟨x, hx⟩ : ∃ x, x = l.getD k 0 := ⟨_, rfl⟩
      have hcx : w.cell? ⟨b, o + k, none⟩ = some (.int .u8 (x.toNat : Int)) := by rw [hx]; exact hcell k hlt
      have Hx := Lib.hid hx
      clear hx hcell
      have hx1 : (x.toNat : Int) < 256 := by have := x.toNat_lt; omega
      have hx0 : (0 : Int) ≤ (x.toNat : Int) := by omega
      go_wp2_with fail
      go_round
      case rel =>
        have hl := HR.out.1
        refine ⟨k + 1, (d * 256 + x.toNat) % 18446744073709551616, by omega, by go_num, ?_, ?_, Nat.mod_lt _ (by decide)⟩
        · rw [IntKind.wrap_u64, IntKind.wrap_u64]; congr 1; omega
        · show _ = _
          rw [take_more l k (by omega), ← Hx.out, beNat_snoc, ← hd.out]
      case measure => simp [intOf]; omega
    · obtain rfl : k = n := by omega
      have hl := HR.out.1
      have e : l.take k = l := List.take_of_length_le (by omega)
      have HE := Lib.hid e
      clear e hl
      go_wp2
      go_ret
      exact ⟨by rw [hd.out, HE.out]; rfl, rfl⟩

/-- append at a step of a region that draws its order, and what else it leaves. -/
theorem step_appG {P : Program} {w : World} {ops : Array Oper} {o : Oper} {a : Act} {K : Act → World → Prop} {Q : Exit → Act → World → Prop} {E : Prop} (hgd : o.guard = none) (s x : Operand) (t : TypeId)
    (ho : o.op = .call { callee := .builtin .append, args := #[s, x], argTypes := #[t, t] })
    (base : Nat) (e : TypeId) (ht : P.underlying t = some (.slice e)) (hinfo : (P.info? e).map (fun i => (i.zero, i.size, i.bytes)) = some (some (.int .u8 0), 1, 1))
    (v : Value) (l : List UInt8) (hs : a.eval s = v) (hown : Ob w base e v l) (B : Nat) (A : Option Addr) (m c : Nat) (news : List UInt8) (hx : a.eval x = .slice A m c) (hr : Rd w B A m news)
    (hbound : l.length + m ≤ 140737488355328) (hbase : base ≤ w.heap.size)
    (h : ∀ v' w', Ob w' base e v' (l ++ news) → w.grownBy w' v.ownBlock → K (a.put o.dst v') w') : if Region.wanted o (yielded ops a.tmps) = true then Oper.wp P o a w K Q else E := by
  have hw : Region.wanted o (yielded ops a.tmps) = true := by simp [Region.wanted, hgd]
  rw [if_pos hw]
  obtain ⟨v', w', hrun, h2, h3, h4⟩ := run_app (P := P) w base t o.type e ht hinfo v l hown B A m c news hr hbound hbase
  unfold Oper.wp execOp
  simp only [ho, resolve, invoke, builtin, Sem.run_bind, Sem.run_pure, Result.andThen_ok, List.map_toArray, List.map_cons, List.map_nil, hs, hx, hrun]
  exact h v' w' h2 h3
theorem Rd.grown {w w' : World} {B n : Nat} {A : Option Addr} {l : List UInt8} {row : Option Nat} (h : Rd w B A n l) (hg : w.grownBy w' row) (hB : B ≤ w.heap.size) (hne : ∀ b o, A = some ⟨b, o, none⟩ → row ≠ some b) : Rd w' B A n l :=
  ⟨h.1, fun hn => by
    obtain ⟨b, o, e, hb, hc⟩ := h.2 hn
    refine ⟨b, o, e, hb, fun i hi => ?_⟩
    rw [← hc i hi]
    simp only [World.cell?]
    rw [hg.block b (by omega) (fun h => hne b o e h.symm)]⟩

theorem grown_trans {w0 W w' : World} {t : TypeId} {v : Value} {l : List UInt8} (hg : W.grownBy w' v.ownBlock) (hown : Ob W w0.heap.size t v l) (hb : Below w0.heap.size w0 W) : Below w0.heap.size w0 w' :=
  hb.trans ⟨hg.os, hg.tape, hg.output, hg.size, fun k hk => hg.block k (Nat.lt_of_lt_of_le hk hb.size) (fun e => by have := (World.ownsRow.lt hown k e.symm).1; omega)⟩

/-- The digits of bytes. -/
def dgt (x : Nat) : UInt8 := if x < 10 then UInt8.ofNat (48 + x) else UInt8.ofNat (87 + x)
def hexL (l : List UInt8) : List UInt8 := l.flatMap fun x => [dgt (x.toNat / 16), dgt (x.toNat % 16)]
theorem hexL_snoc (l : List UInt8) (x : UInt8) : hexL (l ++ [x]) = hexL l ++ [dgt (x.toNat / 16)] ++ [dgt (x.toNat % 16)] := by
  simp [hexL]
def digs : ByteArray := ⟨#[48, 49, 50, 51, 52, 53, 54, 55, 56, 57, 97, 98, 99, 100, 101, 102]⟩
theorem digs_at : ∀ (y : Nat) (W : World), y < 16 → (Instr.index 9 (.string digs) (.int .u8 (y : Int))).run Try.prog W = .ok (.int .u8 ((dgt y).toNat : Int)) W := by
  intro y W h
  have : y = 0 ∨ y = 1 ∨ y = 2 ∨ y = 3 ∨ y = 4 ∨ y = 5 ∨ y = 6 ∨ y = 7 ∨ y = 8 ∨ y = 9 ∨ y = 10 ∨ y = 11 ∨ y = 12 ∨ y = 13 ∨ y = 14 ∨ y = 15 := by omega
  rcases this with rfl | rfl | rfl | rfl | rfl | rfl | rfl | rfl | rfl | rfl | rfl | rfl | rfl | rfl | rfl | rfl <;> rfl

set_option maxRecDepth 100000 in
set_option maxHeartbeats 1000000 in
theorem rhex_any (A : Option Addr) (n c B : Nat) (l : List UInt8) (w : World) (h : Rd w B A n l) (hB : B ≤ w.heap.size) (hn : n ≤ 70368744177664) :
    Calls Try.prog 19 #[.slice A n c] w fun e w' => e = .returned (.string ⟨(hexL l).toArray⟩) ∧ Below w.heap.size w w' := by
  have HR := Lib.hid h
  have HB := Lib.hid hB
  clear h hB
  go_enter Try.func19, Try.ntmps19
  go_wp2
  go_loopw [3, 4] (fun v i wr => ∃ k : Nat, k ≤ n ∧ i = .int .i64 k ∧ Hid (Ob wr w.heap.size 5 v (hexL (l.take k))) ∧ Hid (Below w.heap.size w wr)) (fun _ i _ => n - (intOf i).toNat)
  case atStart => exact ⟨0, Nat.zero_le _, rfl, Ob.nil_ _ _ _, Below.refl _ _⟩
  case round =>
    obtain ⟨k, hk, rfl, hob, hbel⟩ := hrel
    by_cases hlt : k < n
    · obtain ⟨b, o, rfl, hb, hcell⟩ := HR.out.2 (by omega)
      obtain ⟨x, hx⟩ : ∃ x, x = l.getD k 0 := ⟨_, rfl⟩
      have hcx : wr.cell? ⟨b, o + k, none⟩ = some (.int .u8 (x.toNat : Int)) := by rw [hx, hbel.out.cell (p := ⟨b, o + k, none⟩) (Nat.lt_of_lt_of_le hb HB.out)]; exact hcell k hlt
      have Hx := Lib.hid hx
      clear hx hcell
      obtain ⟨X, hX⟩ : ∃ X, X = x.toNat := ⟨_, rfl⟩
      rw [← hX] at hcx
      have hX1 : X < 256 := by have := x.toNat_lt; omega
      obtain ⟨p, hp⟩ : ∃ p, p = X / 16 := ⟨_, rfl⟩
      obtain ⟨r, hr⟩ : ∃ r, r = X % 16 := ⟨_, rfl⟩
      have q1 : (X : Int) / 16 = (p : Int) := by omega
      have q2 : (X : Int) % 16 = (r : Int) := by omega
      have q3 : (X : Int).tmod 16 = (r : Int) := by rw [Int.tmod_eq_emod_of_nonneg (by omega)]; exact q2
      have q4 : IntKind.u8.wrap (p : Int) = (p : Int) := by rw [IntKind.wrap_u8]; omega
      have q5 : IntKind.u8.wrap (r : Int) = (r : Int) := by rw [IntKind.wrap_u8]; omega
      have D1 := fun W => digs_at p W (by omega)
      have D2 := fun W => digs_at r W (by omega)
      rw [show digs = ⟨#[48, 49, 50, 51, 52, 53, 54, 55, 56, 57, 97, 98, 99, 100, 101, 102]⟩ from rfl] at D1 D2
      obtain ⟨Y, hY⟩ : ∃ Y, Y = dgt p := ⟨_, rfl⟩
      obtain ⟨Z, hZ⟩ : ∃ Z, Z = dgt r := ⟨_, rfl⟩
      rw [← hY] at D1
      rw [← hZ] at D2
      rw [hp] at hY
      rw [hr] at hZ
      have HP := Lib.hid hp
      have HR2 := Lib.hid hr
      clear hp hr
      have i0 : (0 : Int) ≤ (k : Int) := by omega
      have i1 : (k : Int) < (n : Int) := by omega
      have HX := Lib.hid hX
      have HY := Lib.hid hY
      have HZ := Lib.hid hZ
      have HX1 := Lib.hid hX1
      clear hX hY hZ hX1
      go_wp2_with fail
      have hq : (⟨hexL (l.take k), rfl⟩ : {L // L = hexL (l.take k)}).1.length ≤ 140737488355326 := by
        have e : ∀ L : List UInt8, (hexL L).length = 2 * L.length := fun L => by
          induction L with
          | nil => rfl
          | cons y t ih => rw [List.length_cons, show hexL (y :: t) = dgt (y.toNat / 16) :: dgt (y.toNat % 16) :: hexL t from rfl, List.length_cons, List.length_cons, ih]; omega
        show (hexL (l.take k)).length ≤ _
        rw [e, List.length_take]; omega
      obtain ⟨L, hL⟩ : ∃ L, L = hexL (l.take k) := ⟨_, rfl⟩
      have ho := hob.out
      rw [← hL] at ho
      have hq1 : L.length + 1 ≤ 140737488355328 := by rw [hL]; exact Nat.le_trans (Nat.add_le_add_right hq 1) (by decide)
      have hq2 : (L ++ [Y]).length + 1 ≤ 140737488355328 := by rw [List.length_append, hL]; exact Nat.le_trans (Nat.add_le_add_right hq 2) (by decide)
      have HL := Lib.hid hL
      have HQ1 := Lib.hid hq1
      have HQ2 := Lib.hid hq2
      have HO := Lib.hid ho
      have HSZ := Lib.hid hbel.out.size
      have hown : u3.ownBlock ≠ some wr.heap.size ∧ u3.ownBlock ≠ some (wr.heap.size + 1) := by
        refine ⟨fun e => ?_, fun e => ?_⟩
        · have := (World.ownsRow.lt ho _ e).2; omega
        · have := (World.ownsRow.lt ho _ e).2; omega
      have HW := Lib.hid hown
      have hbw : b < w.heap.size := Nat.lt_of_lt_of_le hb HB.out
      have hownb : u3.ownBlock ≠ some b := fun e => by
        have := (World.ownsRow.lt ho _ e).1; omega
      have HC := Lib.hid (fun (W w1 : World) (hg : W.grownBy w1 u3.ownBlock) (hz : b < W.heap.size) (hc : W.cell? ⟨b, o + k, none⟩ = some (.int .u8 (X : Int))) => (show w1.cell? ⟨b, o + k, none⟩ = some (.int .u8 (X : Int)) by
        rw [← hc]
        simp only [World.cell?]
        rw [hg.block b hz (fun h => hownb h.symm)]))
      have HBW : Hid (b < wr.heap.size) := Nat.lt_of_lt_of_le hbw hbel.out.size
      have HCX := Lib.hid hcx
      have HC1 := Lib.hid (fun (o1 : Obj) => (World.cell?_alloc_lt wr.drew o1 ⟨b, o + k, none⟩ HBW.out).trans hcx)
      have HC2 := Lib.hid (fun (o1 o2 : Obj) => (World.cell?_alloc_lt (wr.drew.alloc o1) o2 ⟨b, o + k, none⟩ (by simp; exact Nat.lt_succ_of_lt HBW.out)).trans ((World.cell?_alloc_lt wr.drew o1 ⟨b, o + k, none⟩ HBW.out).trans hcx))
      have RY1 := Lib.hid ((Rd.lit wr _ rfl [Y] 5 #[.int .u8 (Y.toNat : Int)] rfl 1 rfl).drew)
      have RY2 := Lib.hid (fun (o2 : Obj) => ((Rd.lit wr _ rfl [Y] 5 #[.int .u8 (Y.toNat : Int)] rfl 1 rfl).alloc (by simp) o2).drew)
      have RY3 := Lib.hid (fun (o1 : Obj) => (Rd.lit (wr.alloc o1) (wr.heap.size + 1) (by simp) [Y] 5 #[.int .u8 (Y.toNat : Int)] rfl 1 rfl).drew)
      have BA1 := Lib.hid (fun (o1 : Obj) => (hbel.out.alloc hbel.out.size o1).drew)
      have BA2 := Lib.hid (fun (o1 o2 : Obj) => ((hbel.out.alloc hbel.out.size o1).alloc (by simp; exact Nat.le_succ_of_le hbel.out.size) o2).drew)
      have GA1 := Lib.hid (fun (o2 : Obj) (w1 : World) (hg : ((wr.alloc (.cells #[.int .u8 (Z.toNat : Int)] 5)).alloc o2).drew.grownBy w1 u3.ownBlock) =>
        Rd.grown (((Rd.lit wr _ rfl [Z] 5 #[.int .u8 (Z.toNat : Int)] rfl 1 rfl).alloc (by simp) o2).drew) hg (by simp) (fun b' o' e => by injection e with e; injection e with e1; subst e1; exact HW.out.1))
      have GA2 := Lib.hid (fun (o1 : Obj) (w1 : World) (hg : ((wr.alloc o1).alloc (.cells #[.int .u8 (Z.toNat : Int)] 5)).drew.grownBy w1 u3.ownBlock) =>
        Rd.grown ((Rd.lit (wr.alloc o1) (wr.heap.size + 1) (by simp) [Z] 5 #[.int .u8 (Z.toNat : Int)] rfl 1 rfl).drew) hg (by simp) (fun b' o' e => by injection e with e; injection e with e1; subst e1; exact HW.out.2))
      clear hL hq hq1 hq2 ho hown hbw hownb
      have hcA : ∀ o1 : Obj, (wr.alloc o1).drew.cell? ⟨b, o + k, none⟩ = some (.int .u8 (X : Int)) := fun o1 => HC1.out o1
      have hcB : ∀ o1 o2 : Obj, ((wr.alloc o1).alloc o2).drew.cell? ⟨b, o + k, none⟩ = some (.int .u8 (X : Int)) := fun o1 o2 => HC2.out o1 o2
      go_region_law (first
        | (refine step_appG rfl (.tmp 11) (.tmp 18) 22 rfl w.heap.size 5 Try.underlying22 info_u8 _ L rfl (by first | exact ((HO.out.alloc _).drew) | exact (((HO.out.alloc _).alloc _).drew)) _ _ 1 1 [Y] rfl (by first | exact RY1.out | exact RY2.out _ | exact RY3.out _) HQ1.out (Nat.le_trans HSZ.out (by simp <;> omega)) ?_; intro v1 w1 ho1 hb1; have O1 := Lib.hid ho1; have B1 := Lib.hid hb1; have hc1 := HC.out _ _ hb1 (by have := HBW.out; simp <;> omega) (by first | exact hcA _ | exact hcB _ _); have FB1 := Lib.hid (grown_trans hb1 (by first | exact ((HO.out.alloc _).drew) | exact (((HO.out.alloc _).alloc _).drew)) (by first | exact BA1.out _ | exact BA2.out _ _)); clear ho1 hb1)
        | (refine step_appG rfl (.tmp 19) (.tmp 26) 22 rfl w.heap.size 5 Try.underlying22 info_u8 _ (L ++ [Y]) rfl (by first | exact (O1.out.alloc _) | exact O1.out) _ _ 1 1 [Z] rfl (by first | exact Rd.lit _ _ rfl [Z] _ _ rfl 1 rfl | exact GA1.out _ _ B1.out | exact GA2.out _ _ B1.out) HQ2.out (by have h1 := B1.out.size; have h2 := HSZ.out; simp at h1 ⊢ <;> omega) ?_; intro v2 w2 ho2 hb2; have O2 := Lib.hid ho2; have FB2 := Lib.hid (grown_trans hb2 (by first | exact (O1.out.alloc _) | exact O1.out) (by first | exact (FB1.out.alloc FB1.out.size _) | exact FB1.out)); clear ho2 hb2)
        | fail)
      all_goals clear hcA hcB hc1
      all_goals
        go_wp2_with fail
        go_roundw
        case rel =>
          refine ⟨k + 1, by omega, by go_num, ?_, FB2.out⟩
          show Ob _ _ _ _ _
          rw [take_more l k (by rw [HR.out.1]; exact hlt), hexL_snoc, ← Hx.out, ← HX.out, ← HY.out, ← HZ.out, ← HL.out]
          exact O2.out
        case measure => simp [intOf]; omega
    · obtain rfl : k = n := by omega
      have hs := hob.out
      rw [List.take_of_length_le (by rw [HR.out.1]; exact Nat.le_refl _)] at hs
      obtain ⟨A', c', rfl, _, _, hr'⟩ := hs.rd
      have HS := Lib.hid (fun W (h : W = wr) => (by subst h; exact run_str (P := Try.prog) (c := c') hr' 22 5 9 Try.underlying22 Try.underlying5 Try.underlying9 : (convert 22 9 (.slice A' (hexL l).length c')).run Try.prog W = .ok (.string ⟨(hexL l).toArray⟩) W))
      have hstr := HS.out wr rfl
      clear hs hr'
      go_wp2
      go_ret
      exact ⟨rfl, hbel.out⟩
end Go.Proofs.Ytllodapnbdbpeaa
