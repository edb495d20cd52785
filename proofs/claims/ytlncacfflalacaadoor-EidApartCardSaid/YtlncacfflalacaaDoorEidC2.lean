/- What checkIpn, check, Check and None of layer 4 return. -/
import Derived.Test.YtlncacfflalacaaDoorEidC
import Derived.Stop.IfaceNil
namespace Go.Proofs.YtlncacfflalacaaDoor
open Go.RowKit

set_option maxRecDepth 100000 in
set_option maxHeartbeats 1000000 in
theorem checkipn_any (A : Snt) (s : ByteArray) (n v : Nat) (w : World) (hA : Lds A w) :
    Calls Tryd.prog 27 #[epdV 2 s n v] w (Why A (checkB (ep 2 s n v)) w) := by
  obtain ⟨R, hR⟩ : ∃ R, R = checkB (ep 2 s n v) := ⟨_, rfl⟩
  rw [← hR]
  have hR2 : R = (s.data.toList.isEmpty && (decide (0 < n) && (decide (n ≤ 4294967295) && decide (v ≤ 4294967295)))) := by rw [hR]; unfold checkB; rw [if_neg (show ¬ (ep 2 s n v).scheme = 1 by show ¬ (2 : Int) = 1; decide)]; rfl
  clear hR
  have hse := str_empty s
  unfold epdV
  have gu : (w.alloc (.cells #[.int .i64 2, .string s, .int .u64 (n : Int), .int .u64 (v : Int)] 25)).cell? ⟨3, 0, none⟩ = some (snt A.u) := (hA.alloc _).cu
  have gn : (w.alloc (.cells #[.int .i64 2, .string s, .int .u64 (n : Int), .int .u64 (v : Int)] 25)).cell? ⟨2, 0, none⟩ = some (snt A.n) := (hA.alloc _).cn
  clear hA
  unfold snt at gu gn
  have hN : (decide (0 < n) && (decide (n ≤ 4294967295) && decide (v ≤ 4294967295))) = (decide ¬ ((n : Int) = 0) && (decide ¬ (4294967295 < (n : Int)) && decide ¬ (4294967295 < (v : Int)))) := by
    rw [Bool.eq_iff_iff]; simp; omega
  rw [hN] at hR2
  clear hN
  generalize (n : Int) = N at *
  generalize (v : Int) = V at *
  cases he : s.data.toList.isEmpty with
  | false =>
    rw [he] at hse hR2
    have hr : R = false := hR2
    subst hr
    clear hR2 he
    go_enter Tryd.func27, Tryd.ntmps27
    go_wp2_with fail
    go_ret
    exact ⟨(Below.refl _ _).alloc (Nat.le_refl _) _, .inr ⟨rfl, A.n, .inr (.inl rfl), rfl⟩⟩
  | true =>
    rw [he] at hse hR2
    clear he
    by_cases h1 : N = 0
    · subst h1
      have hr : R = false := by rw [hR2]; simp
      subst hr
      clear hR2
      go_enter Tryd.func27, Tryd.ntmps27
      go_wp2_with fail
      go_ret
      exact ⟨(Below.refl _ _).alloc (Nat.le_refl _) _, .inr ⟨rfl, A.u, .inr (.inr (.inl rfl)), rfl⟩⟩
    by_cases h2 : 4294967295 < N
    · have hr : R = false := by rw [hR2]; simp; omega
      subst hr
      clear hR2
      go_enter Tryd.func27, Tryd.ntmps27
      go_wp2_with fail
      go_ret
      exact ⟨(Below.refl _ _).alloc (Nat.le_refl _) _, .inr ⟨rfl, A.u, .inr (.inr (.inl rfl)), rfl⟩⟩
    have h2' : N ≤ 4294967295 := by omega
    by_cases h3 : 4294967295 < V
    · have hr : R = false := by rw [hR2]; simp; omega
      subst hr
      clear hR2
      go_enter Tryd.func27, Tryd.ntmps27
      go_wp2_with fail
      go_ret
      exact ⟨(Below.refl _ _).alloc (Nat.le_refl _) _, .inr ⟨rfl, A.u, .inr (.inr (.inl rfl)), rfl⟩⟩
    have h3' : V ≤ 4294967295 := by omega
    have hr : R = true := by rw [hR2]; simp; omega
    subst hr
    clear hR2
    go_enter Tryd.func27, Tryd.ntmps27
    go_wp2_with fail
    go_ret
    exact ⟨(Below.refl _ _).alloc (Nat.le_refl _) _, .inl ⟨rfl, rfl⟩⟩

theorem Why.boxed {A : Snt} {b : Bool} {w : World} {o : Obj} {e : Ending} {w' : World} (h : Why A b (w.alloc o) e w') : Why A b w e w' :=
  ⟨((Below.refl _ _).alloc (Nat.le_refl _) o).trans (h.1.mono (le_alloc _ _)), h.2⟩

set_option maxRecDepth 100000 in
set_option maxHeartbeats 1000000 in
theorem check_any (A : Snt) (sc : Int) (s : ByteArray) (n v : Nat) (w : World) (hA : Lds A w) (hs : s.size ≤ 140737488355328) :
    Calls Tryd.prog 19 #[epdV sc s n v] w (Why A (checkB (ep sc s n v)) w) := by
  have gs : (w.alloc (.cells #[.int .i64 sc, .string s, .int .u64 (n : Int), .int .u64 (v : Int)] 25)).cell? ⟨1, 0, none⟩ = some (snt A.s) := (hA.alloc _).cs
  unfold snt at gs
  by_cases h1 : sc = 1
  · subst h1
    have C1 := Lib.hid (checkdtn_any A s n v (w.alloc (.cells #[.int .i64 1, .string s, .int .u64 (n : Int), .int .u64 (v : Int)] 25)) (hA.alloc _) hs)
    clear hA gs
    generalize checkB (ep 1 s n v) = R at *
    unfold epdV at *
    go_enter Tryd.func19, Tryd.ntmps19
    go_wp2_with fail
    refine C1.out.mono ?_
    intro e w1 hy
    have HY := Lib.hid hy.boxed
    obtain ⟨hb, ⟨hc, rfl⟩ | ⟨hc, a, ha, rfl⟩⟩ := hy
    · clear hb hc
      go_wp2_with fail
      go_ret
      exact HY.out
    · clear hb hc ha
      unfold snt at *
      go_wp2_with fail
      go_ret
      exact HY.out
  by_cases h2 : sc = 2
  · subst h2
    have C1 := Lib.hid (checkipn_any A s n v (w.alloc (.cells #[.int .i64 2, .string s, .int .u64 (n : Int), .int .u64 (v : Int)] 25)) (hA.alloc _))
    clear hA gs
    generalize checkB (ep 2 s n v) = R at *
    unfold epdV at *
    go_enter Tryd.func19, Tryd.ntmps19
    go_wp2_with fail
    refine C1.out.mono ?_
    intro e w1 hy
    have HY := Lib.hid hy.boxed
    obtain ⟨hb, ⟨hc, rfl⟩ | ⟨hc, a, ha, rfl⟩⟩ := hy
    · clear hb hc
      go_wp2_with fail
      go_ret
      exact HY.out
    · clear hb hc ha
      unfold snt at *
      go_wp2_with fail
      go_ret
      exact HY.out
  have hr : checkB (ep sc s n v) = false := by
    unfold checkB
    rw [if_neg (show ¬ (ep sc s n v).scheme = 1 from h1)]
    have : ((ep sc s n v).scheme == 2) = false := beq_eq_false_iff_ne.2 h2
    rw [this, Bool.false_and]
  rw [hr]
  clear hr
  unfold epdV at *
  go_enter Tryd.func19, Tryd.ntmps19
  go_wp2_with fail
  go_ret
  exact ⟨(Below.refl _ _).alloc (Nat.le_refl _) _, .inr ⟨rfl, A.s, .inl rfl, rfl⟩⟩

set_option maxRecDepth 100000 in
set_option maxHeartbeats 1000000 in
theorem ccheck_any (A : Snt) (sc : Int) (s : ByteArray) (n v : Nat) (w : World) (hA : Lds A w) (hs : s.size ≤ 140737488355328) :
    Calls Tryd.prog 11 #[epdV sc s n v] w fun e w' => e = .returned (.bool (checkB (ep sc s n v))) ∧ Below w.heap.size w w' := by
  have C1 := Lib.hid (check_any A sc s n v (w.alloc (.cells #[.int .i64 sc, .string s, .int .u64 (n : Int), .int .u64 (v : Int)] 25)) (hA.alloc _) hs)
  clear hA
  generalize checkB (ep sc s n v) = R at *
  unfold epdV at *
  have q1 := fun (W : World) (u : TypeId) (x : Value) => run_eql_iface_nil (P := Tryd.prog) (w := W) 46 (by kernel_rfl) u x
  go_enter Tryd.func11, Tryd.ntmps11
  go_wp2_with fail
  refine C1.out.mono ?_
  intro e w1 hy
  obtain ⟨hb, ⟨rfl, rfl⟩ | ⟨rfl, a, ha, rfl⟩⟩ := hy
  · have HB := Lib.hid hb
    clear hb
    go_wp2_with fail
    go_ret
    exact ⟨rfl, ((Below.refl _ _).alloc (Nat.le_refl _) _).trans (HB.out.mono (le_alloc _ _))⟩
  · have HB := Lib.hid hb
    clear hb ha
    unfold snt at *
    go_wp2_with fail
    go_ret
    exact ⟨rfl, ((Below.refl _ _).alloc (Nat.le_refl _) _).trans (HB.out.mono (le_alloc _ _))⟩

set_option maxRecDepth 100000 in
set_option maxHeartbeats 1000000 in
theorem none_any (sc : Int) (s : ByteArray) (n v : Nat) (w : World) :
    Calls Tryd.prog 14 #[epdV sc s n v] w fun e w' => e = .returned (.bool (noneB (ep sc s n v))) ∧ Below w.heap.size w w' := by
  obtain ⟨R, hR⟩ : ∃ R, R = noneB (ep sc s n v) := ⟨_, rfl⟩
  rw [← hR]
  have HR := Lib.hid hR
  clear hR
  unfold epdV
  go_enter Tryd.func14, Tryd.ntmps14
  go_wp2_with fail
  all_goals go_ret
  all_goals
    refine ⟨congrArg (fun b => Ending.returned (Value.bool b)) ((?_ : _ = _).trans HR.out.symm), (Below.refl _ _).alloc (Nat.le_refl _) _⟩
    unfold noneB ep
    simp [← Lib.toList_data, *]
end Go.Proofs.YtlncacfflalacaaDoor
