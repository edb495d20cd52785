/- What Pad of layer 7 returns. -/
import Derived.Test.YtllodapnbdbpeaaShaE
import Derived.Test.YtllodapnbdbpeaaShaM
import Derived.Test.YtllodapnbdbpeaaNumE
import Derived.Laws.MakeOwn
namespace Go.Proofs.Ytllodapnbdbpeaa
open Go.RowKit

/-- make of bytes with room behind them. -/
theorem wpList_makeB {P : Program} {ops : Array Oper} {rest : List Oper} {o : Oper} {a : Act} {w : World} {Q : Exit → Act → World → Prop} (hg : o.guard = none) (l c : Operand) (t : TypeId) (hop : o.op = Op.makeSlice t l c)
    (e : TypeId) (ht : P.underlying t = some (.slice e)) (hinfo : (P.info? e).map (fun i => (i.zero, i.size, i.bytes)) = some (some (.int .u8 0), 1, 1)) (M C : Nat) (x y : Int) (hl : a.eval l = .int .i64 x) (hc : a.eval c = .int .i64 y) (hx : x = (M : Int)) (hy : y = (C : Int)) (hMC : M ≤ C) (hC : C ≤ 140737488355328)
    (h : ∀ w' : World, Ob w' w.heap.size e (.slice (some ⟨w.heap.size, 0, none⟩) M C) (List.replicate M 0) → Below w.heap.size w w' → wpList P ops Q rest (a.put o.dst (.slice (some ⟨w.heap.size, 0, none⟩) M C)) w') : wpList P ops Q (o :: rest) a w := by
  subst hx hy
  obtain ⟨i, hi, hzz⟩ := Option.map_eq_some_iff.1 hinfo
  simp only [Prod.mk.injEq] at hzz
  obtain ⟨hz, hs, hb⟩ := hzz
  have hr := run_make (P := P) w t e i (.int .u8 0) ht hi hz .i64 .i64 (M : Int) (C : Int) (by omega) (by omega) (by rw [hb]; omega) (by omega)
  simp only [Int.toNat_natCast, hs, Nat.mul_one] at hr
  refine wpList_plain hg fun K hK => ?_
  unfold Oper.wp
  simp [execOp, hop, hl, hc, hr, Result.andThen]
  refine hK _ _ (h _ ⟨?_, .inr ⟨w.heap.size, C, _, by simp, Nat.le_refl _, heap_alloc_new w _, by simpa using hMC, by unfold maxLen; omega, by rw [size_madeCells, Nat.mul_one], ?_⟩⟩ ((Below.refl _ _).alloc (Nat.le_refl _) _))
  · simp
  · apply List.ext_getElem?
    intro j
    have hz1 : (Value.int IntKind.u8 0).cells = #[.int .u8 0] := rfl
    rw [hz1]
    by_cases hj : j < M
    · have hj2 : j < C := by omega
      simp [hj, madeCells, hj2, Nat.mod_one, bv]
    · simp [hj]
      omega

theorem cput_any (x : Int) (n : Nat) (k : Int) (hk : k = (n : Int)) (hn : n ≤ 8) (w : World) (hx0 : 0 ≤ x) (hx1 : x < 18446744073709551616) :
    Calls Try.prog 37 #[.int .u64 x, .int .i64 k] w fun e w' => ∃ A, e = .returned (.slice A n n) ∧ Rd w' w'.heap.size A n (be x.toNat n) ∧ Below w.heap.size w w' := by
  subst hk
  refine (put_any x (n : Int) w hx0 hx1).mono ?_
  rintro e w' ⟨rfl, hr, hb⟩
  have hp : psz (n : Int) = n := by unfold psz; omega
  rw [hp] at hr
  exact ⟨_, by rw [hp], Rb.rd hr (be_length _ _) (Rb.lt hr), hb⟩

theorem padL_eq (N m : Nat) (hm : m = 63 - (N % 64 + 8) % 64) : padL N = (List.replicate (1 + m) (0 : UInt8)).set 0 128 ++ be (8 * N) 8 := by
  rw [padL, hm, Nat.add_comm 1]
  rfl

set_option maxRecDepth 100000 in
set_option maxHeartbeats 1000000 in
theorem cpad_any (N : Nat) (hN : N < 9223372036854775808) (w : World) : Calls Try.prog 33 #[.int .i64 (N : Int)] w (GivesO 5 (padL N) w) := by
  obtain ⟨m, hm⟩ : ∃ m, m = 63 - (N % 64 + 8) % 64 := ⟨_, rfl⟩
  have hm64 : m < 64 := by omega
  have q1 : 63 - ((N : Int) + 8) % 64 = (m : Int) := by omega
  have HP := Lib.hid (padL_eq N m hm)
  have hx1 : (IntKind.u64.wrap (8 * (N : Int))).toNat % 256 ^ 8 = (8 * N) % 256 ^ 8 := by
    rw [IntKind.wrap_u64]; omega
  have hx2 : 0 ≤ IntKind.u64.wrap (8 * (N : Int)) ∧ IntKind.u64.wrap (8 * (N : Int)) < 18446744073709551616 := by
    rw [IntKind.wrap_u64]; omega
  have n0 : (0 : Int) ≤ (N : Int) := by omega
  go_enter Try.func33, Try.ntmps33
  have C2 := Lib.hid (cput_any (IntKind.u64.wrap (8 * (N : Int))) 8 8 rfl (by decide))
  have HE := Lib.hid (be_lt 8 _ _ hx1)
  have HX2 := Lib.hid hx2
  clear hm hx1 hx2
  go_wp2_with (first
    | (refine wpList_makeB rfl (.tmp 13) (.tmp 16) 22 rfl 5 Try.underlying22 info_u8 (1 + m) (1 + m + 8) _ _ rfl rfl (by omega) (by omega) (by omega) (by omega) ?_; intro w1 ho1 hb1; have O1 := Lib.hid ho1; have B1 := Lib.hid hb1; have cz := ho1.cell (j := 0) (by simp) (by omega); have fz := ho1.frozen (by simp) 0; clear ho1 hb1)
    | fail)
  refine (C2.out _ HX2.out.1 HX2.out.2).mono ?_
  rintro e w2 ⟨A2, rfl, hr2, hb2⟩
  rw [HE.out] at hr2
  have ho := (O1.out.stored (by simp) 0 128 (u := .int .u8 128) rfl).below hb2
  have hb3 : Below w.heap.size w w2 := (B1.out.setCell (Nat.le_refl _) _).trans (hb2.mono (by rw [World.size_setCell]; exact B1.out.size))
  have HO := Lib.hid ho
  have HB3 := Lib.hid hb3
  have HRD := Lib.hid hr2
  clear ho hb3 hr2 hb2
  go_wp2_with (first
    | (at_builtin; refine wpList_appB rfl (.tmp 20) (.tmp 24) 22 rfl w.heap.size 5 Try.underlying22 info_u8 _ ((List.replicate (1 + m) (0 : UInt8)).set 0 128) rfl HO.out _ _ 8 8 (be (8 * N) 8) rfl HRD.out (by simp; omega) HB3.out.size ?_; intro v3 w3 ho3 hb3; have O3 := Lib.hid ho3; have B3 := Lib.hid hb3; clear ho3 hb3)
    | fail)
  go_ret
  exact ⟨_, rfl, by rw [HP.out]; exact O3.out, HB3.out.trans B3.out⟩

theorem cpad_neg (n : Int) (hn : n < 0) (w : World) : Calls Try.prog 33 #[.int .i64 n] w (fun e w' => e = .returned (.slice none 0 0) ∧ w = w') := by
  go_enter Try.func33, Try.ntmps33
  go_wp2
  go_ret
  exact ⟨rfl, rfl⟩
end Go.Proofs.Ytllodapnbdbpeaa
