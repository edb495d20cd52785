/- What checkIpn, check, Check and None of layer 4 return. -/
import Derived.Test.YtlecbblmaadpiaaGreatDoorJArrS
import Derived.Test.YtlecbblmaadpiaaGreatDoorJCborR
import Derived.Test.YtlecbblmaadpiaaGreatDoorJCrcS
import Derived.Test.YtlecbblmaadpiaaGreatDoorJEidE
import Derived.Test.YtlecbblmaadpiaaGreatDoorJKRd
import Derived.Test.YtlecbblmaadpiaaGreatDoorJMask
import Derived.Test.YtlecbblmaadpiaaGreatDoorJOwn
import Derived.Stop.IfaceNil
import Derived.Test.YtlecbblmaadpiaaGreatDoorRows
import Derived.Below
import Derived.BigCall
import Derived.BigGuard
import Derived.BigGuardPart
import Derived.BigQuiet
import Derived.Deep.DeepCutAuto
import Derived.Deep.DeepFit
import Derived.Deep.Draws
import Derived.Deep.OwnRows
import Derived.Deep.QuietTactic
import Derived.Laws.AppendOwn
import Derived.Laws.BitsAllLaws
import Derived.Laws.BytesArg
import Derived.Laws.IdiomStrings
import Derived.Laws.NewBlocks
import Derived.Laws.Strings3
import Derived.Lib.EndianBits
import Derived.Lib.HexFns
import Derived.Lib.Hide
import Derived.Lib.ItoaNum
import Derived.Lib.SlBytesConst
import Derived.Lib.Strings
import Derived.Lib.Walk
import Derived.Outline
import Derived.WalkKit
import Derived.WalkLawsBesides
import Derived.Deep.RegionHeld3
namespace Go.Proofs.YtlecbblmaadpiaaGreatDoor
open Go.RowKit
set_option maxRecDepth 100000 in
set_option maxHeartbeats 1000000 in
theorem checkipn_any (A : Snt) (s : ByteArray) (n v : Nat) (w : World) (hA : Lds A w) :
    Calls Tryz.prog 119 #[epdV 2 s n v] w (Why A (checkB (ep 2 s n v)) w) := by
  obtain ⟨R, hR⟩ : ∃ R, R = checkB (ep 2 s n v) := ⟨_, rfl⟩
  rw [← hR]
  have hR2 : R = (s.data.toList.isEmpty && (decide (0 < n) && (decide (n ≤ 4294967295) && decide (v ≤ 4294967295)))) := by rw [hR]; unfold checkB; rw [if_neg (show ¬ (ep 2 s n v).scheme = 1 by show ¬ (2 : Int) = 1; decide)]; rfl
  clear hR
  have hse := str_empty s
  unfold epdV
  have gu : (w.alloc (.cells #[.int .i64 2, .string s, .int .u64 (n : Int), .int .u64 (v : Int)] 25)).cell? ⟨2, 0, none⟩ = some (snt A.u) := (hA.alloc _).cu
  have gn : (w.alloc (.cells #[.int .i64 2, .string s, .int .u64 (n : Int), .int .u64 (v : Int)] 25)).cell? ⟨1, 0, none⟩ = some (snt A.n) := (hA.alloc _).cn
  clear hA
  unfold snt at gu gn
  have hN : (decide (0 < n) && (decide (n ≤ 4294967295) && decide (v ≤ 4294967295))) = (decide ¬ ((n : Int) = 0) && (decide ¬ (4294967295 < (n : Int)) && decide ¬ (4294967295 < (v : Int)))) := by
    rw [Bool.eq_iff_iff]; simp; omega
  rw [hN] at hR2
  clear hN
  generalize (n : Int) = N at *
  generalize (v : Int) = V at *
  cases he : s.data.toList.isEmpty with
  | false =>
    rw [he] at hse hR2
    have hr : R = false := hR2
    subst hr
    clear hR2 he
    go_enter Tryz.func119, Tryz.ntmps119
    go_wp2_with fail
    go_ret
    exact ⟨(Below.refl _ _).alloc (Nat.le_refl _) _, .inr ⟨rfl, A.n, .inr (.inl rfl), rfl⟩⟩
  | true =>
    rw [he] at hse hR2
    clear he
    by_cases h1 : N = 0
    · subst h1
      have hr : R = false := by rw [hR2]; simp
      subst hr
      clear hR2
      go_enter Tryz.func119, Tryz.ntmps119
      go_wp2_with fail
      go_ret
      exact ⟨(Below.refl _ _).alloc (Nat.le_refl _) _, .inr ⟨rfl, A.u, .inr (.inr (.inl rfl)), rfl⟩⟩
    by_cases h2 : 4294967295 < N
    · have hr : R = false := by rw [hR2]; simp; omega
      subst hr
      clear hR2
      go_enter Tryz.func119, Tryz.ntmps119
      go_wp2_with fail
      go_ret
      exact ⟨(Below.refl _ _).alloc (Nat.le_refl _) _, .inr ⟨rfl, A.u, .inr (.inr (.inl rfl)), rfl⟩⟩
    have h2' : N ≤ 4294967295 := by omega
    by_cases h3 : 4294967295 < V
    · have hr : R = false := by rw [hR2]; simp; omega
      subst hr
      clear hR2
      go_enter Tryz.func119, Tryz.ntmps119
      go_wp2_with fail
      go_ret
      exact ⟨(Below.refl _ _).alloc (Nat.le_refl _) _, .inr ⟨rfl, A.u, .inr (.inr (.inl rfl)), rfl⟩⟩
    have h3' : V ≤ 4294967295 := by omega
    have hr : R = true := by rw [hR2]; simp; omega
    subst hr
    clear hR2
    go_enter Tryz.func119, Tryz.ntmps119
    go_wp2_with fail
    go_ret
    exact ⟨(Below.refl _ _).alloc (Nat.le_refl _) _, .inl ⟨rfl, rfl⟩⟩
theorem Why.boxed {A : Snt} {b : Bool} {w : World} {o : Obj} {e : Ending} {w' : World} (h : Why A b (w.alloc o) e w') : Why A b w e w' :=
  ⟨((Below.refl _ _).alloc (Nat.le_refl _) o).trans (h.1.mono (le_alloc _ _)), h.2⟩
set_option maxRecDepth 100000 in
set_option maxHeartbeats 1000000 in
theorem echeck_any (A : Snt) (sc : Int) (s : ByteArray) (n v : Nat) (w : World) (hA : Lds A w) (hs : s.size ≤ 140737488355328) :
    Calls Tryz.prog 68 #[epdV sc s n v] w (Why A (checkB (ep sc s n v)) w) := by
  have gs : (w.alloc (.cells #[.int .i64 sc, .string s, .int .u64 (n : Int), .int .u64 (v : Int)] 25)).cell? ⟨0, 0, none⟩ = some (snt A.s) := (hA.alloc _).cs
  unfold snt at gs
  by_cases h1 : sc = 1
  · subst h1
    have C1 := Lib.hid (checkdtn_any A s n v (w.alloc (.cells #[.int .i64 1, .string s, .int .u64 (n : Int), .int .u64 (v : Int)] 25)) (hA.alloc _) hs)
    clear hA gs
    generalize checkB (ep 1 s n v) = R at *
    unfold epdV at *
    go_enter Tryz.func68, Tryz.ntmps68
    go_wp2_with fail
    refine C1.out.mono ?_
    intro e w1 hy
    have HY := Lib.hid hy.boxed
    obtain ⟨hb, ⟨hc, rfl⟩ | ⟨hc, a, ha, rfl⟩⟩ := hy
    · clear hb hc
      go_wp2_with fail
      go_ret
      exact HY.out
    · clear hb hc ha
      unfold snt at *
      go_wp2_with fail
      go_ret
      exact HY.out
  by_cases h2 : sc = 2
  · subst h2
    have C1 := Lib.hid (checkipn_any A s n v (w.alloc (.cells #[.int .i64 2, .string s, .int .u64 (n : Int), .int .u64 (v : Int)] 25)) (hA.alloc _))
    clear hA gs
    generalize checkB (ep 2 s n v) = R at *
    unfold epdV at *
    go_enter Tryz.func68, Tryz.ntmps68
    go_wp2_with fail
    refine C1.out.mono ?_
    intro e w1 hy
    have HY := Lib.hid hy.boxed
    obtain ⟨hb, ⟨hc, rfl⟩ | ⟨hc, a, ha, rfl⟩⟩ := hy
    · clear hb hc
      go_wp2_with fail
      go_ret
      exact HY.out
    · clear hb hc ha
      unfold snt at *
      go_wp2_with fail
      go_ret
      exact HY.out
  have hr : checkB (ep sc s n v) = false := by
    unfold checkB
    rw [if_neg (show ¬ (ep sc s n v).scheme = 1 from h1)]
    have : ((ep sc s n v).scheme == 2) = false := beq_eq_false_iff_ne.2 h2
    rw [this, Bool.false_and]
  rw [hr]
  clear hr
  unfold epdV at *
  go_enter Tryz.func68, Tryz.ntmps68
  go_wp2_with fail
  go_ret
  exact ⟨(Below.refl _ _).alloc (Nat.le_refl _) _, .inr ⟨rfl, A.s, .inl rfl, rfl⟩⟩
set_option maxRecDepth 100000 in
set_option maxHeartbeats 1000000 in
theorem ccheck_any (A : Snt) (sc : Int) (s : ByteArray) (n v : Nat) (w : World) (hA : Lds A w) (hs : s.size ≤ 140737488355328) :
    Calls Tryz.prog 15 #[epdV sc s n v] w fun e w' => e = .returned (.bool (checkB (ep sc s n v))) ∧ Below w.heap.size w w' := by
  have C1 := Lib.hid (echeck_any A sc s n v (w.alloc (.cells #[.int .i64 sc, .string s, .int .u64 (n : Int), .int .u64 (v : Int)] 25)) (hA.alloc _) hs)
  clear hA
  generalize checkB (ep sc s n v) = R at *
  unfold epdV at *
  have q1 := fun (W : World) (u : TypeId) (x : Value) => run_eql_iface_nil (P := Tryz.prog) (w := W) 95 (by kernel_rfl) u x
  go_enter Tryz.func15, Tryz.ntmps15
  go_wp2_with fail
  refine C1.out.mono ?_
  intro e w1 hy
  obtain ⟨hb, ⟨rfl, rfl⟩ | ⟨rfl, a, ha, rfl⟩⟩ := hy
  · have HB := Lib.hid hb
    clear hb
    go_wp2_with fail
    go_ret
    exact ⟨rfl, ((Below.refl _ _).alloc (Nat.le_refl _) _).trans (HB.out.mono (le_alloc _ _))⟩
  · have HB := Lib.hid hb
    clear hb ha
    unfold snt at *
    go_wp2_with fail
    go_ret
    exact ⟨rfl, ((Below.refl _ _).alloc (Nat.le_refl _) _).trans (HB.out.mono (le_alloc _ _))⟩
set_option maxRecDepth 100000 in
set_option maxHeartbeats 1000000 in
theorem none_any (sc : Int) (s : ByteArray) (n v : Nat) (w : World) :
    Calls Tryz.prog 17 #[epdV sc s n v] w fun e w' => e = .returned (.bool (noneB (ep sc s n v))) ∧ Below w.heap.size w w' := by
  obtain ⟨R, hR⟩ : ∃ R, R = noneB (ep sc s n v) := ⟨_, rfl⟩
  rw [← hR]
  have HR := Lib.hid hR
  clear hR
  unfold epdV
  go_enter Tryz.func17, Tryz.ntmps17
  go_wp2_with fail
  all_goals go_ret
  all_goals
    refine ⟨congrArg (fun b => Ending.returned (Value.bool b)) ((?_ : _ = _).trans HR.out.symm), (Below.refl _ _).alloc (Nat.le_refl _) _⟩
    unfold noneB ep
    simp [← Lib.toList_data, *]
end Go.Proofs.YtlecbblmaadpiaaGreatDoor
/- Chosen by shake.py of the texts of the layers below: what dec_any need. -/
section
namespace Go.Proofs.YtlecbblmaadpiaaGreatDoor
open Go.RowKit
def decRow (f : Nat) (suf : List UInt8) : Nat → Value := fun j => if f ≤ j then .int .u8 ((suf.getD (j - f) 0).toNat : Int) else .int .u8 0
theorem dig10 (d : Nat) (h : d < 16) (h10 : d < 10) : Value.int .u8 (((⟨#[48, 49, 50, 51, 52, 53, 54, 55, 56, 57, 97, 98, 99, 100, 101, 102]⟩ : ByteArray)[d]'h).toNat : Int) = .int .u8 ((UInt8.ofNat (48 + d)).toNat : Int) := by
  have : ∀ d : Fin 10, (⟨#[48, 49, 50, 51, 52, 53, 54, 55, 56, 57, 97, 98, 99, 100, 101, 102]⟩ : ByteArray)[d.val]'(Nat.lt_of_lt_of_le d.isLt (by decide)) = UInt8.ofNat (48 + d.val) := by decide +kernel
  rw [this ⟨d, h10⟩]
theorem decRow_step (a f : Nat) (suf : List UInt8) (j : Nat) (hf : 1 ≤ f) (_hs : f ≤ 20) (_hj : j < 20) {h : a % 10 < 16} :
    (if j = f - 1 then Value.int .u8 (((⟨#[48, 49, 50, 51, 52, 53, 54, 55, 56, 57, 97, 98, 99, 100, 101, 102]⟩ : ByteArray)[a % 10]'h).toNat : Int) else decRow f suf j) = decRow (f - 1) (UInt8.ofNat (48 + a % 10) :: suf) j := by
  rw [dig10 _ h (by omega)]
  unfold decRow
  by_cases e : j = f - 1
  · subst e
    rw [if_pos rfl, if_pos (Nat.le_refl _), Nat.sub_self]
    rfl
  · rw [if_neg e]
    by_cases h2 : f ≤ j
    · rw [if_pos h2, if_pos (by omega), show j - (f - 1) = (j - f) + 1 by omega]
      simp [List.getD]
    · rw [if_neg h2, if_neg (by omega)]
theorem decRow_set {w : World} {b f : Nat} {t : TypeId} {suf : List UInt8} (hrow : w.rowIs b t 20 (decRow f suf)) (a : Nat) (hf : 1 ≤ f) (hf20 : f ≤ 20) (h : a % 10 < 16) :
    (w.setCell ⟨b, f - 1, none⟩ (Value.int .u8 (((⟨#[48, 49, 50, 51, 52, 53, 54, 55, 56, 57, 97, 98, 99, 100, 101, 102]⟩ : ByteArray)[a % 10]'h).toNat : Int))).rowIs b t 20 (decRow (f - 1) (UInt8.ofNat (48 + a % 10) :: suf)) :=
  (World.rowIs.set hrow (f - 1) _).congr fun j hj => decRow_step a f suf j hf hf20 hj
set_option maxRecDepth 100000 in
set_option maxHeartbeats 1000000 in
theorem dec_any (x : Int) (w : World) (h0 : 0 ≤ x) (h1 : x < 18446744073709551616) :
    Calls Tryz.prog 103 #[.int .u64 x] w fun e w' => e = .returned (.string ⟨(Lib.decDigits x.toNat).toArray⟩) ∧ Below w.heap.size w w' := by
  go_enter Tryz.func103, Tryz.ntmps103
  go_wp2
  go_loopw [0, 4] (fun v i wr => ∃ (a f : Nat) (suf : List UInt8), v = .int .u64 (a : Int) ∧ i = .int .i64 (f : Int) ∧ 1 ≤ f ∧ f ≤ 20 ∧ a < 18446744073709551616 ∧ Hid (a < 10 ^ f) ∧ Hid (suf.length = 20 - f) ∧
      Hid (Lib.decDigits x.toNat = Lib.decDigits a ++ suf) ∧ Hid (wr.rowIs w.heap.size 185 20 (decRow f suf)) ∧ Hid (Below w.heap.size w wr))
    (fun _ i _ => (intOf i).toNat)
  case atStart =>
    refine ⟨x.toNat, 20, [], by go_num, rfl, by omega, by omega, by omega, (by omega : x.toNat < 100000000000000000000), rfl, by simp [Hid], ?_, (Below.refl _ _).alloc (Nat.le_refl _) _⟩
    exact World.rowIs_alloc w _ _ _ (fun i hi => by
      have hi' : i < 20 := hi
      have : ∀ i, i < 20 → (#[Value.int IntKind.u8 0, Value.int IntKind.u8 0, Value.int IntKind.u8 0, Value.int IntKind.u8 0, Value.int IntKind.u8 0, Value.int IntKind.u8 0, Value.int IntKind.u8 0, Value.int IntKind.u8 0, Value.int IntKind.u8 0, Value.int IntKind.u8 0, Value.int IntKind.u8 0, Value.int IntKind.u8 0, Value.int IntKind.u8 0, Value.int IntKind.u8 0, Value.int IntKind.u8 0, Value.int IntKind.u8 0, Value.int IntKind.u8 0, Value.int IntKind.u8 0, Value.int IntKind.u8 0, Value.int IntKind.u8 0] : Array Value)[i]? = some (.int .u8 0) :=
        fun i hi => by
          have h : (Array.replicate 20 (Value.int IntKind.u8 0))[i]? = some (.int .u8 0) := by simp [hi]
          exact h
      rw [this i hi']
      simp [decRow])
  case round =>
    obtain ⟨a, f, suf, rfl, rfl, hf, hf20, ha, hpow, hsuf, hdig, hrow, hbel⟩ := hrel
    have hf1 : wr.frozen? ⟨w.heap.size, f - 1, none⟩ = false := World.rowIs.frozen hrow.out _
    have hc1 : wr.cell? ⟨w.heap.size, f - 1, none⟩ = some _ := World.rowIs.cell hrow.out (by omega)
    have hsl := sliceAt_l (P := Tryz.prog) 185 5 20 rfl rfl rfl size_u8 w.heap.size (f - 1) ((f : Int) - 1) (by omega) (by omega)
    by_cases hz : a < 10
    · have ht : ((a : Int) / 10 == 0) = true := by simp; omega
      have hd : ∀ W : World, W.rowIs w.heap.size 185 20 (decRow (f - 1) (UInt8.ofNat (48 + a % 10) :: suf)) →
          (convert 27 9 (.slice (some ⟨w.heap.size, f - 1, none⟩) (20 - (f - 1)) (20 - (f - 1)))).run Tryz.prog W = .ok (.string ⟨(UInt8.ofNat (48 + a % 10) :: suf).toArray⟩) W := fun W h =>
        run_str (rowIs_rd (B := w.heap.size + 1) h (by have := hsuf.out; simp; omega) (by omega) (by omega) (fun i hi => by unfold decRow; rw [if_pos (by omega), Nat.add_sub_cancel_left])) 27 5 9 rfl rfl rfl
      have hfin : (UInt8.ofNat (48 + a % 10) :: suf) = Lib.decDigits x.toNat := by rw [hdig.out, Lib.decDigits, dif_pos hz, Nat.mod_eq_of_lt hz]; rfl
      have HD := Lib.hid hd
      have HF := Lib.hid hfin
      clear hd hfin
      have hd := HD.out _ (decRow_set hrow.out a hf hf20 (by omega))
      go_wp2_with fail
      go_ret
      exact ⟨by rw [← HF.out]; simp, hbel.out.setCell (by simp) _⟩
    · have ht : ((a : Int) / 10 == 0) = false := by simp; omega
      go_wp2_with fail
      go_roundw
      case rel =>
        have hp := hpow.out
        have hs := hsuf.out
        have hf2 : 2 ≤ f := by
          rcases Nat.lt_or_ge f 2 with h | h
          · have : f = 1 := by omega
            subst this
            simp at hp
            omega
          · exact h
        refine ⟨a / 10, f - 1, UInt8.ofNat (48 + a % 10) :: suf, by go_num, by go_num, by omega, by omega, by omega, ?_, by simp [Hid]; omega, ?_, decRow_set hrow.out a hf hf20 (by omega), hbel.out.setCell (by simp) _⟩
        · have e : 10 ^ f = 10 ^ (f - 1) * 10 := by rw [← Nat.pow_succ]; congr 1; omega
          rw [e] at hp
          exact Nat.div_lt_of_lt_mul (by rw [Nat.mul_comm]; exact hp)
        · show Lib.decDigits x.toNat = _
          rw [hdig.out, Lib.decDigits, dif_neg hz]
          simp
      case measure => simp [intOf]; omega
end Go.Proofs.YtlecbblmaadpiaaGreatDoor
end
/- What ipnText, Text and Node of layer 4 return. -/
namespace Go.Proofs.YtlecbblmaadpiaaGreatDoor
open Go.RowKit
open Go.Lib (decDigits)
theorem box_cells4 {w w' : World} {c0 c1 c2 c3 : Value} {t : TypeId} (h : Below (w.alloc (.cells #[c0, c1, c2, c3] t)).heap.size (w.alloc (.cells #[c0, c1, c2, c3] t)) w') :
    w'.cell? ⟨w.heap.size, 0, none⟩ = some c0 ∧ w'.cell? ⟨w.heap.size, 1, none⟩ = some c1 ∧ w'.cell? ⟨w.heap.size, 2, none⟩ = some c2 ∧ w'.cell? ⟨w.heap.size, 3, none⟩ = some c3 := by
  refine ⟨?_, ?_, ?_, ?_⟩ <;> (rw [h.cell (by simp), World.cell?_alloc_at _ _ _ _ rfl]; rfl)
theorem ep_name (sc : Int) (s : ByteArray) (n v : Nat) : (ep sc s n v).name = s.data.toList := rfl
end Go.Proofs.YtlecbblmaadpiaaGreatDoor
/- What behindScheme of layer 4 returns. -/
namespace Go.Proofs.YtlecbblmaadpiaaGreatDoor
open Go.RowKit
def behI (e : Epd) : Itm := if e.scheme = 2 then .mk 4 0 [] [.mk 0 e.node [] [], .mk 0 e.service [] []] else if e.name = [] then .mk 0 0 [] [] else .mk 3 0 e.name []
theorem itemE_beh (e : Epd) : itemE e = .mk 4 0 [] [.mk 0 e.scheme.toNat [] [], behI e] := rfl
theorem put4_cell {W : World} {g : Nat} {p : Addr} {u v0 v1 v2 v3 : Value} (h : W.cell? p = some u) (hg : ¬ g = p.block) : ((((W.setCell ⟨g, 0, none⟩ v0).setCell ⟨g, 1, none⟩ v1).setCell ⟨g, 2, none⟩ v2).setCell ⟨g, 3, none⟩ v3).cell? p = some u := by
  rw [World.cell?_setCell_far _ _ _ _ hg, World.cell?_setCell_far _ _ _ _ hg, World.cell?_setCell_far _ _ _ _ hg, World.cell?_setCell_far _ _ _ _ hg]
  exact h
theorem RdIs.two_ {lo : Nat} {W : World} {a0 a1 a2 a3 b0 b1 b2 b3 : Value} {x y : Itm} {t : TypeId} (hlo : lo ≤ W.heap.size) (h1 : RdI (mask (lows lo) W) W.heap.size (.agg #[a0, a1, a2, a3]) x) (h2 : RdI (mask (lows lo) W) W.heap.size (.agg #[b0, b1, b2, b3]) y) :
    RdIs (mask (lows lo) (W.alloc (.cells #[a0, a1, a2, a3, b0, b1, b2, b3] t))) (W.heap.size + 1) W.heap.size 0 [x, y] := by
  have hb := (Below.refl W.heap.size W).alloc (Nat.le_refl _) (.cells #[a0, a1, a2, a3, b0, b1, b2, b3] t)
  have hs : (W.alloc (.cells #[a0, a1, a2, a3, b0, b1, b2, b3] t)).heap.size = W.heap.size + 1 := by simp
  have k1 := h1.grow hb (Nat.le_refl lo)
  have k2 := h2.grow hb (Nat.le_refl lo)
  rw [hs] at k1 k2
  have hc : ∀ j u, (#[a0, a1, a2, a3, b0, b1, b2, b3] : Array Value)[j]? = some u → (mask (lows lo) (W.alloc (.cells #[a0, a1, a2, a3, b0, b1, b2, b3] t))).cell? ⟨W.heap.size, j, none⟩ = some u := fun j u hj => by
    rw [mask_cell (lows_f.2 hlo), World.cell?_alloc_at _ _ _ _ rfl]
    exact hj
  rw [RdIs, RdIs, RdIs]
  exact ⟨⟨a0, a1, a2, a3, hc 0 _ rfl, hc 1 _ rfl, hc 2 _ rfl, hc 3 _ rfl, k1⟩, ⟨b0, b1, b2, b3, hc 4 _ rfl, hc 5 _ rfl, hc 6 _ rfl, hc 7 _ rfl, k2⟩, trivial⟩
theorem carray_two {lo : Nat} {W : World} {a0 a1 a2 a3 b0 b1 b2 b3 : Value} {x y : Itm} (hlo : lo ≤ W.heap.size) (h1 : RdI (mask (lows lo) W) W.heap.size (.agg #[a0, a1, a2, a3]) x) (h2 : RdI (mask (lows lo) W) W.heap.size (.agg #[b0, b1, b2, b3]) y) (hp : pars [x, y] ≤ 1000000) :
    Calls Tryz.prog 114 #[.slice (some ⟨W.heap.size, 0, none⟩) 2 2] (W.alloc (.cells #[a0, a1, a2, a3, b0, b1, b2, b3] 30)) (GivesL lo (.mk 4 0 [] [x, y]) (W.alloc (.cells #[a0, a1, a2, a3, b0, b1, b2, b3] 30))) :=
  carrayS_any (lows lo) W.heap.size 0 2 2 (W.heap.size + 1) [x, y] (W.alloc (.cells #[a0, a1, a2, a3, b0, b1, b2, b3] 30)) (fun k hk => by have h1 := decide_eq_true_iff.1 hk; simp; omega) (Nat.le_of_eq (by simp)) (Nat.lt_succ_self _) (RdIs.two_ hlo h1 h2) rfl (by decide) hp (Nat.le_refl _)
set_option maxRecDepth 100000 in
set_option maxHeartbeats 300000 in
theorem ebehind_any (sc : Int) (s : ByteArray) (n v : Nat) (w : World) (hc : checkB (ep sc s n v) = true) (hs : s.size ≤ 140737488355328) (hn : n < 18446744073709551616) (hv : v < 18446744073709551616) :
    Calls Tryz.prog 116 #[epdV sc s n v] w (GivesL w.heap.size (behI (ep sc s n v)) w) := by
  have C2 := Lib.hid (fun W => none_any sc s n v W)
  by_cases h1 : sc = 1
  · subst h1
    obtain ⟨hn0, hv0, -⟩ := check_dtn hc rfl
    have CU := Lib.hid (fun (lo : Nat) (W : World) => cuintL_any lo 0 W (by decide))
    have CT := Lib.hid (fun (lo : Nat) (W : World) h => ctextL_any lo s W h hs)
    by_cases he : s.data.toList = []
    · have hno : noneB (ep 1 s n v) = true := by
        unfold noneB
        rw [hn0, hv0, show (ep 1 s n v).name = [] from he]
        rfl
      have hbi : behI (ep 1 s n v) = .mk 0 0 [] [] := by
        unfold behI
        rw [if_neg (show ¬ (ep 1 s n v).scheme = 2 by show ¬ (1 : Int) = 2; decide), if_pos (show (ep 1 s n v).name = [] from he)]
      rw [hno] at C2
      rw [hbi]
      clear hc hno hbi hn0 hv0 he
      unfold epdV at *
      go_enter Tryz.func116, Tryz.ntmps116
      go_wp2_with fail
      refine (C2.out _).mono ?_
      rintro e w1 ⟨rfl, hb⟩
      have HB := Lib.hid hb
      clear hb
      go_wp2_with fail
      refine (CU.out (w.heap.size + 2) _).mono ?_
      rintro e w2 ⟨v2, rfl, hv2, hb⟩
      obtain ⟨k2, n2, A2, nd2, cd2, AL2, nl2, cl2, rfl⟩ := hv2.form
      have hb2 := (HB.out.trans (hb.mono HB.out.size)).mono (show w.heap.size + 2 ≤ _ by simp)
      obtain ⟨⟨z0, z1, z2, z3⟩, f0, f1, f2, f3⟩ := zero4 (g := w.heap.size + 1) (by simp) hb2
      have HB2 := Lib.hid hb2
      have HV2 := Lib.hid hv2
      clear hb hb2 hv2
      go_wp2_with fail
      refine bodyPost_ret (v := .agg #[.int .i64 k2, .int .u64 (n2 : Int), .slice A2 nd2 cd2, .slice AL2 nl2 cl2]) (by simp [results, Tryz.results116, go_sem, z0, z1, z2, z3]) rfl ⟨_, rfl, ?_, ?_⟩
      · exact HV2.out.put4 (Nat.le_add_right _ 2) (Nat.lt_succ_self _) (Nat.le_of_eq size_put4.symm)
      · exact below_set4 ((((Below.refl _ _).alloc (Nat.le_refl _) _).alloc (le_alloc _ _) _).trans (HB2.out.mono (Nat.le_add_right _ 2))) (Nat.le_succ _)
    · have hno : noneB (ep 1 s n v) = false := by
        unfold noneB
        have : (ep 1 s n v).name.isEmpty = false := by rw [ep_name]; cases hh : s.data.toList with | nil => exact absurd hh he | cons a l => rfl
        rw [this, Bool.false_and, Bool.and_false]
      have hbi : behI (ep 1 s n v) = .mk 3 0 s.data.toList [] := by
        unfold behI
        rw [if_neg (show ¬ (ep 1 s n v).scheme = 2 by show ¬ (1 : Int) = 2; decide), if_neg (show ¬ (ep 1 s n v).name = [] from he)]
        rfl
      rw [hno] at C2
      rw [hbi]
      clear hc hno hbi hn0 hv0 he
      unfold epdV at *
      go_enter Tryz.func116, Tryz.ntmps116
      go_wp2_with fail
      refine (C2.out _).mono ?_
      rintro e w1 ⟨rfl, hb⟩
      have g1 := box_cells4 ((((Below.refl (w.alloc (.cells #[.int .i64 1, .string s, .int .u64 (n : Int), .int .u64 (v : Int)] 25)).heap.size _).alloc (Nat.le_refl _) _)).trans (hb.mono (le_alloc _ _)))
      have HB := Lib.hid hb
      clear hb
      obtain ⟨g10, g11, g12, g13⟩ := g1
      go_wp2_with fail
      refine (CT.out (w.heap.size + 2) _ (by have h := HB.out.size; simpa using h)).mono ?_
      rintro e w2 ⟨v2, rfl, hv2, hb⟩
      obtain ⟨k2, n2, A2, nd2, cd2, AL2, nl2, cl2, rfl⟩ := hv2.form
      have hb2 := (HB.out.trans (hb.mono HB.out.size)).mono (show w.heap.size + 2 ≤ _ by simp)
      obtain ⟨⟨z0, z1, z2, z3⟩, f0, f1, f2, f3⟩ := zero4 (g := w.heap.size + 1) (by simp) hb2
      have HB2 := Lib.hid hb2
      have HV2 := Lib.hid hv2
      clear hb hb2 hv2
      go_wp2_with fail
      refine bodyPost_ret (v := .agg #[.int .i64 k2, .int .u64 (n2 : Int), .slice A2 nd2 cd2, .slice AL2 nl2 cl2]) (by simp [results, Tryz.results116, go_sem, z0, z1, z2, z3]) rfl ⟨_, rfl, ?_, ?_⟩
      · exact HV2.out.put4 (Nat.le_add_right _ 2) (Nat.lt_succ_self _) (Nat.le_of_eq size_put4.symm)
      · exact below_set4 ((((Below.refl _ _).alloc (Nat.le_refl _) _).alloc (le_alloc _ _) _).trans (HB2.out.mono (Nat.le_add_right _ 2))) (Nat.le_succ _)
  · obtain ⟨h2, hnm, -, -, -⟩ := check_ipn hc h1
    have h2' : sc = 2 := h2
    subst h2'
    have hno : noneB (ep 2 s n v) = false := rfl
    have hbi : behI (ep 2 s n v) = .mk 4 0 [] [.mk 0 n [] [], .mk 0 v [] []] := rfl
    rw [hno] at C2
    rw [hbi]
    have CU1 := Lib.hid (fun (W : World) => cuintL_any (w.heap.size + 2) n W hn)
    have CU2 := Lib.hid (fun (W : World) => cuintL_any (w.heap.size + 2) v W hv)
    have hpar : pars [.mk 0 n [] [], .mk 0 v [] []] ≤ 1000000 := by simp [pars, par]
    have HPAR := Lib.hid hpar
    clear hc hno hbi hnm h1 h2 hpar
    unfold epdV at *
    go_enter Tryz.func116, Tryz.ntmps116
    go_wp2_with fail
    refine (C2.out _).mono ?_
    rintro e w1 ⟨rfl, hb⟩
    have g1 := box_cells4 ((((Below.refl (w.alloc (.cells #[.int .i64 2, .string s, .int .u64 (n : Int), .int .u64 (v : Int)] 25)).heap.size _).alloc (Nat.le_refl _) _)).trans (hb.mono (le_alloc _ _)))
    have HB := Lib.hid (hb.mono (show w.heap.size + 2 ≤ _ by simp))
    have HZ1 : Hid (w.heap.size + 2 ≤ w1.heap.size) := by show _ ≤ _; have h := hb.size; simpa using h
    clear hb
    obtain ⟨g10, g11, g12, g13⟩ := g1
    go_wp2_with fail
    have HNE : Hid (¬ w.heap.size + 1 = w.heap.size) := Nat.succ_ne_self _
    have hlt0 : w.heap.size < w1.heap.size := Nat.lt_of_lt_of_le (by omega) HZ1.out
    go_region_held3 (fun W => W.cell? ⟨w.heap.size, 2, none⟩ = some (.int .u64 (n : Int)) ∧ W.cell? ⟨w.heap.size, 3, none⟩ = some (.int .u64 (v : Int)))
      (first | (with_reducible exact ⟨x2, x3⟩) | (with_reducible exact ⟨put4_cell x2 HNE.out, put4_cell x3 HNE.out⟩) | (with_reducible exact ⟨u2, u3⟩) | (with_reducible exact ⟨(World.cell?_alloc_lt w3 _ ⟨w.heap.size, 2, none⟩ H3.out).trans u2, (World.cell?_alloc_lt w3 _ ⟨w.heap.size, 3, none⟩ H3.out).trans u3⟩) | (with_reducible exact ⟨t2, t3⟩) | (exact ⟨g12, g13⟩) | fail)
      (first
        | (go_at_call 115; have _g := V2; clear _g; refine (CU2.out _).mono ?_; rintro e w3 ⟨v3, rfl, hv3, hb3⟩; have V3 := Lib.hid (V2.out.grow hb3 (Nat.le_refl _)); have hb3' := B2.out.trans (hb3.mono B2.out.size); have u2 := (hb3'.cell (p := ⟨w.heap.size, 2, none⟩) hlt0).trans g12; have u3 := (hb3'.cell (p := ⟨w.heap.size, 3, none⟩) hlt0).trans g13; obtain ⟨k3, n3, A3, nd3, cd3, AL3, nl3, cl3, rfl⟩ := hv3.form; have W3 := Lib.hid hv3; have B3 := Lib.hid hb3'; have H3 : Hid (w.heap.size < w3.heap.size) := Nat.lt_of_lt_of_le hlt0 hb3'.size; clear hv3 hb3 hb3')
        | (go_at_call 115; refine (CU1.out _).mono ?_; rintro e w2 ⟨v2, rfl, hv2, hb2⟩; have hb2' : Below w1.heap.size w1 w2 := Below.drew_.trans hb2; have t2 := (hb2'.cell (p := ⟨w.heap.size, 2, none⟩) hlt0).trans g12; have t3 := (hb2'.cell (p := ⟨w.heap.size, 3, none⟩) hlt0).trans g13; obtain ⟨k2, n2, A2, nd2, cd2, AL2, nl2, cl2, rfl⟩ := hv2.form; have V2 := Lib.hid hv2; have B2 := Lib.hid hb2'; clear hv2 hb2 hb2')
        | (go_at_call 114; refine (carray_two (Nat.le_trans HZ1.out B3.out.size) V3.out W3.out HPAR.out).mono ?_; rintro e w4 ⟨v4, rfl, hv4, hb4⟩; have hb4' := (B3.out.alloc B3.out.size _).trans (hb4.mono (Nat.le_trans B3.out.size (le_alloc _ _))); have x2 := (hb4'.cell (p := ⟨w.heap.size, 2, none⟩) hlt0).trans g12; have x3 := (hb4'.cell (p := ⟨w.heap.size, 3, none⟩) hlt0).trans g13; obtain ⟨k4, n4, A4, nd4, cd4, AL4, nl4, cl4, rfl⟩ := hv4.form; have V4 := Lib.hid hv4; have hb5 := HB.out.trans (hb4'.mono HZ1.out); obtain ⟨⟨z0, z1, z2, z3⟩, f0, f1, f2, f3⟩ := zero4 (g := w.heap.size + 1) (by simp) hb5; have B4 := Lib.hid hb5; clear hv4 hb4 hb4' hb5)
        | fail)
    go_wp2_with fail
    refine bodyPost_ret (v := .agg #[.int .i64 k4, .int .u64 (n4 : Int), .slice A4 nd4 cd4, .slice AL4 nl4 cl4]) (by simp [results, Tryz.results116, go_sem, z0, z1, z2, z3]) rfl ⟨_, rfl, ?_, ?_⟩
    · exact V4.out.put4 (Nat.le_add_right _ 2) (Nat.lt_succ_self _) (Nat.le_of_eq size_put4.symm)
    · exact below_set4 ((((Below.refl _ _).alloc (Nat.le_refl _) _).alloc (le_alloc _ _) _).trans (B4.out.mono (Nat.le_add_right _ 2))) (Nat.le_succ _)
end Go.Proofs.YtlecbblmaadpiaaGreatDoor
/- What speltNumbers and spelt of layer 4 return: the one endpoint whose text this could be. -/
namespace Go.Proofs.YtlecbblmaadpiaaGreatDoor
open Go.RowKit
end Go.Proofs.YtlecbblmaadpiaaGreatDoor
/- What spelt, parsed and Parse of layer 4 return. -/
namespace Go.Proofs.YtlecbblmaadpiaaGreatDoor
open Go.RowKit
end Go.Proofs.YtlecbblmaadpiaaGreatDoor
