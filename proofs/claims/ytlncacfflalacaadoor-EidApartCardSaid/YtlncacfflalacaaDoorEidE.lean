/- errors.Is over the chains of layer 4: a sentinel, or a fault by value round such a chain; and numberOf. -/
import Derived.Test.YtlncacfflalacaaDoorEidC
import Derived.LaidEql
import Derived.Stop.Asserts
import Derived.Stop.IfaceNil
import Derived.RowKitTokens
import Derived.Deep.RegionHeld3
namespace Go.Proofs.YtlncacfflalacaaDoor
open Go.RowKit Go.Extern.Stop Go.Stop Go.Extern

/-- A chain of so many faults that ends in the sentinel at a. -/
inductive Ch (A : Snt) : Nat → Value → Addr → Prop
  | leaf (a : Addr) : OneOf A a → Ch A 0 (snt a) a
  | wrap (k : Nat) (s : ByteArray) (t : TypeId) (v : Value) (a : Addr) : Ch A k (.iface t v) a → Ch A (k + 1) (.iface 56 (.agg #[.string s, .iface t v])) a

theorem isTypeOf (v : Value) (w : World) : (Extern.ReflectliteType.typeOf #[.iface 113 v]).run Tryd.prog w = .ok (.iface 82 (.agg #[.pointer (some ⟨10, 113, none⟩)])) w := by kernel_rfl
theorem isComparable (w : World) : ((Extern.ReflectliteType.method fun t => do Extern.Rtype.noPackHeld "Comparable" t; (fun a => Value.bool a.comparable) <$> typeInfo t) #[.agg #[.pointer (some ⟨10, 113, none⟩)]]).run Tryd.prog w = .ok (.bool true) w := by kernel_rfl
theorem isMethodComparable (n : Nat) (v : Value) (w : World) : (Go.method (n + 8) 82 v "Comparable").run Tryd.prog w = .ok (103, v) w := by kernel_rfl
theorem isComp : (Tryd.prog.info? 113).map (·.comparable) = some true := by kernel_rfl
theorem isSize : (Tryd.prog.info? 115).map (·.size) = some 1 := by kernel_rfl

theorem noIsE (v : Value) (xT : TypeId) (w : World) : (Instr.typeAssert (.iface 113 v) xT 84 true).run Tryd.prog w = .ok (.tuple #[.nilIface, .bool false]) w := run_typeAssert_lacksB Tryd.underlying84 (by kernel_rfl) (by kernel_rfl) v xT w
theorem noUnwrapE (v : Value) (xT : TypeId) (w : World) : (Instr.typeAssert (.iface 113 v) xT 87 true).run Tryd.prog w = .ok (.tuple #[.nilIface, .bool false]) w := run_typeAssert_lacksB Tryd.underlying87 (by kernel_rfl) (by kernel_rfl) v xT w
theorem noUnwrapsE (v : Value) (xT : TypeId) (w : World) : (Instr.typeAssert (.iface 113 v) xT 89 true).run Tryd.prog w = .ok (.tuple #[.nilIface, .bool false]) w := run_typeAssert_lacksB Tryd.underlying89 (by kernel_rfl) (by kernel_rfl) v xT w
theorem noIsW (v : Value) (xT : TypeId) (w : World) : (Instr.typeAssert (.iface 56 v) xT 84 true).run Tryd.prog w = .ok (.tuple #[.nilIface, .bool false]) w := run_typeAssert_lacksB Tryd.underlying84 (by kernel_rfl) (by kernel_rfl) v xT w
theorem hasUnwrapW (v : Value) (xT : TypeId) (w : World) : (Instr.typeAssert (.iface 56 v) xT 87 true).run Tryd.prog w = .ok (.tuple #[.iface 56 v, .bool true]) w := run_typeAssert_hasB Tryd.underlying87 (by kernel_rfl) v xT w
theorem methodUnwrap (n : Nat) (v : Value) (w : World) : (Go.method (n + 8) 56 v "Unwrap").run Tryd.prog w = .ok (99, v) w := by kernel_rfl

/-- How many links a chain has, by its value. -/
def links : Nat → Value → Nat
  | 0, _ => 0
  | n + 1, .iface _ (.agg #[_, v]) => links n v + 1
  | _ + 1, _ => 0
theorem Ch.len {A : Snt} {k : Nat} {E : Value} {a : Addr} (h : Ch A k E a) : ∀ n, k < n → links n E = k := by
  induction h with
  | leaf a _ =>
    intro n hn
    obtain ⟨m, rfl⟩ : ∃ m, n = m + 1 := ⟨n - 1, by omega⟩
    rfl
  | wrap k s t v a h ih =>
    intro n hn
    obtain ⟨m, rfl⟩ : ∃ m, n = m + 1 := ⟨n - 1, by omega⟩
    show links m (.iface t v) + 1 = k + 1
    rw [ih m (by omega)]
theorem Ch.one {A : Snt} {k : Nat} {E : Value} {a : Addr} (h : Ch A k E a) : OneOf A a := by
  induction h with
  | leaf a h => exact h
  | wrap k s t v a h ih => exact ih

set_option maxRecDepth 1000000 in
set_option maxHeartbeats 4000000 in
theorem is_any (A : Snt) (k : Nat) (E : Value) (a b : Addr) (w : World) (hA : Lds A w) (hch : Ch A k E a) (hk : k ≤ 8) (hob : OneOf A b) :
    Calls Tryd.prog 38 #[E, snt b, .bool true] w fun e w' => e = .returned (.bool (decide (a = b))) ∧ Below w.heap.size w w' := by
  obtain ⟨i, hi, hcmp⟩ := Option.map_eq_some_iff.1 isComp
  obtain ⟨j, hj, hjs⟩ := Option.map_eq_some_iff.1 isSize
  have nE := noIsE
  have uE := noUnwrapE
  have vE := noUnwrapsE
  have nW := noIsW
  have uW := hasUnwrapW
  have mU := methodUnwrap
  have HA := Lib.hid hA
  have HCH := Lib.hid hch
  obtain ⟨R, hR⟩ : ∃ R, R = decide (a = b) := ⟨_, rfl⟩
  rw [← hR]
  have HR := Lib.hid hR
  clear hA hch hR
  unfold snt
  go_enter Tryd.func38, Tryd.ntmps38
  go_wp2_with fail
  go_loopw [0] (fun E' wl => Hid (Below w.heap.size w wl) ∧ ∃ k', k' ≤ 8 ∧ Ch A k' E' a) (fun E' _ => links 9 E')
  case atStart => exact ⟨Below.refl _ _, k, hk, HCH.out⟩
  case round =>
    obtain ⟨HB, k', hk', hc'⟩ := hrel
    have hA2 := HA.out.below HB.out (Nat.le_refl _)
    obtain ⟨cb, tb, hb⟩ := hA2.row b hob
    have hlen0 := hc'.len 9 (by omega)
    cases hc' with
    | leaf a hoa =>
      obtain ⟨ca, ta, ha⟩ := hA2.row a hoa
      unfold snt at *
      by_cases hab : a = b
      · subst hab
        have hr : R = true := by rw [HR.out]; simp
        subst hr
        have heq := run_eql_iface_ptr_same (P := Tryd.prog) wr a Tryd.underlying46 Tryd.underlying113 hi hcmp hj
        clear hA2
        go_wp2_with fail
        go_ret
        exact ⟨rfl, HB.out⟩
      · have hr : R = false := by rw [HR.out]; simp [hab]
        subst hr
        have heq := run_eql_iface_ptr_other (P := Tryd.prog) wr Tryd.underlying46 Tryd.underlying113 hi hcmp hj (by rw [hjs]; decide) hab ha hb
        clear hA2
        go_wp2_with fail
        go_ret
        exact ⟨rfl, HB.out⟩
    | wrap k1 s t v a h1 =>
      have hty := run_eql_iface_types (P := Tryd.prog) 56 113 (.agg #[.string s, .iface t v]) (.pointer (some b)) Tryd.underlying46 (by decide) wr
      have hlen := h1.len 9 (by omega)
      have q1 := fun (W : World) (u : TypeId) (x : Value) => run_eql_iface_nil (P := Tryd.prog) (w := W) 46 (by kernel_rfl) u x
      have HC := Lib.hid h1
      have HL := Lib.hid hlen
      have HL0 := Lib.hid hlen0
      clear h1 hA2 hlen hlen0
      go_wp2
      go_roundw
      case rel => exact ⟨HB.out.trans (((Below.refl _ _).alloc (Nat.le_refl _) _).mono HB.out.size), k1, by omega, HC.out⟩
      case measure =>
        show links 9 (.iface t v) < _
        rw [HL.out, HL0.out]
        exact Nat.lt_succ_self _

set_option maxRecDepth 1000000 in
set_option maxHeartbeats 4000000 in
/-- errors.Is of a chain. -/
theorem eis_any (A : Snt) (k : Nat) (E : Value) (a b : Addr) (w : World) (hA : Lds A w) (hch : Ch A k E a) (hk : k ≤ 8) (hob : OneOf A b) :
    Calls Tryd.prog 25 #[E, snt b] w fun e w' => e = .returned (.bool (decide (a = b))) ∧ Below w.heap.size w w' := by
  have h8 := @run_callFunc_extern Tryd.prog 37 _ Extern.ReflectliteType.typeOf Tryd.func37 (by kernel_rfl) (by kernel_rfl) (by kernel_rfl) (by kernel_rfl)
  have h32 := @run_callFunc_extern Tryd.prog 103 _ (Extern.ReflectliteType.method fun t => do Extern.Rtype.noPackHeld "Comparable" t; pure (.bool (← typeInfo t).comparable)) Tryd.func103 (by kernel_rfl) (by kernel_rfl) (by kernel_rfl) (by kernel_rfl)
  have tT := isTypeOf
  have cT := isComparable
  have mR := isMethodComparable
  have C1 := Lib.hid (is_any A k E a b w hA hch hk hob)
  have q1 := fun (W : World) (u : TypeId) (x : Value) => run_eql_iface_nil (P := Tryd.prog) (w := W) 46 (by kernel_rfl) u x
  generalize decide (a = b) = R at *
  obtain ⟨t, v, rfl⟩ : ∃ t v, E = .iface t v := by cases hch <;> exact ⟨_, _, rfl⟩
  clear hA hch hob
  unfold snt at *
  go_enter Tryd.func25, Tryd.ntmps25
  go_wp2_with (first
    | (go_at_call 38; refine C1.out.mono ?_; rintro e w1 ⟨rfl, hb⟩; have HB := Lib.hid hb; clear hb)
    | go_in)
  go_ret
  exact ⟨rfl, HB.out⟩

set_option maxRecDepth 1000000 in
set_option maxHeartbeats 4000000 in
/-- errors.Is of nil. -/
theorem eis_nil (b : Addr) (w : World) :
    Calls Tryd.prog 25 #[.nilIface, snt b] w fun e w' => e = .returned (.bool false) ∧ w = w' := by
  have hn := fun (W : World) (p : Value) => run_eql_iface_nil_left (P := Tryd.prog) W 113 p Tryd.underlying46
  unfold snt
  go_enter Tryd.func25, Tryd.ntmps25
  go_wp2
  go_ret
  exact ⟨rfl, rfl⟩

set_option maxRecDepth 100000 in
set_option maxHeartbeats 4000000 in
theorem number_nil (A : Snt) (w : World) (hA : Lds A w) :
    Calls Tryd.prog 18 #[.nilIface] w fun e w' => e = .returned (.int .i64 0) ∧ w = w' := by
  obtain ⟨cs, cn, cu, cf, -, -, -, -⟩ := hA
  unfold snt at *
  have C1 := Lib.hid (fun b => eis_nil b w)
  unfold snt at *
  go_enter Tryd.func18, Tryd.ntmps18
  go_wp2_with (first
    | (go_at_call 25; refine (C1.out _).mono ?_; rintro e w1 ⟨rfl, rfl⟩)
    | fail)
  go_ret
  exact ⟨rfl, rfl⟩

set_option maxRecDepth 100000 in
set_option maxHeartbeats 4000000 in
theorem number_ch (A : Snt) (k : Nat) (E : Value) (a : Addr) (w : World) (hA : Lds A w) (hch : Ch A k E a) (hk : k ≤ 8) :
    Calls Tryd.prog 18 #[E] w fun e w' => e = .returned (.int .i64 40) ∧ Below w.heap.size w w' := by
  have L1 := fun (W : World) (hb : Below w.heap.size w W) => hA.below hb (Nat.le_refl _)
  have C1 := Lib.hid (fun (b : Addr) (W : World) (hb : Below w.heap.size w W) (ho : OneOf A b) => eis_any A k E a b W (L1 W hb) hch hk ho)
  have G : ∀ W, Below w.heap.size w W → W.cell? ⟨1, 0, none⟩ = some (snt A.s) ∧ W.cell? ⟨2, 0, none⟩ = some (snt A.n) ∧ W.cell? ⟨3, 0, none⟩ = some (snt A.u) ∧ W.cell? ⟨0, 0, none⟩ = some (snt A.f) := fun W hb => ⟨(L1 W hb).cs, (L1 W hb).cn, (L1 W hb).cu, (L1 W hb).cf⟩
  have G0 := G w (Below.refl _ _)
  obtain ⟨g1, g2, g3, g4⟩ := G0
  have HG := Lib.hid G
  have ho := hch.one
  have HO := Lib.hid hA.ne
  clear G hA hch L1
  unfold snt at *
  go_enter Tryd.func18, Tryd.ntmps18
  go_wp2_with fail
  refine (C1.out A.s _ (Below.refl _ _) (.inl rfl)).mono ?_
  rintro e w1 ⟨rfl, hb1⟩
  have G1 := HG.out w1 hb1
  have HB1 := Lib.hid hb1
  clear hb1 g1 g2 g3 g4
  obtain ⟨g1, g2, g3, g4⟩ := G1
  by_cases a1 : a = A.s
  · rw [decide_eq_true a1]
    clear a1 ho
    go_wp2_with fail
    go_ret
    exact ⟨rfl, HB1.out⟩
  rw [decide_eq_false a1]
  go_wp2_with fail
  refine (C1.out A.n _ HB1.out (.inr (.inl rfl))).mono ?_
  rintro e w2 ⟨rfl, hb2⟩
  have hb2' := HB1.out.trans (hb2.mono HB1.out.size)
  have G1 := HG.out w2 hb2'
  have HB2 := Lib.hid hb2'
  clear hb2 hb2' g1 g2 g3 g4
  obtain ⟨g1, g2, g3, g4⟩ := G1
  by_cases a2 : a = A.n
  · rw [decide_eq_true a2]
    clear a1 a2 ho
    go_wp2_with fail
    go_ret
    exact ⟨rfl, HB2.out⟩
  rw [decide_eq_false a2]
  go_wp2_with fail
  refine (C1.out A.u _ HB2.out (.inr (.inr (.inl rfl)))).mono ?_
  rintro e w3 ⟨rfl, hb3⟩
  have hb3' := HB2.out.trans (hb3.mono HB2.out.size)
  have G1 := HG.out w3 hb3'
  have HB3 := Lib.hid hb3'
  clear hb3 hb3' g1 g2 g3 g4
  obtain ⟨g1, g2, g3, g4⟩ := G1
  by_cases a3 : a = A.u
  · rw [decide_eq_true a3]
    clear a1 a2 a3 ho
    go_wp2_with fail
    go_ret
    exact ⟨rfl, HB3.out⟩
  rw [decide_eq_false a3]
  have a4 : a = A.f := by
    rcases ho with h | h | h | h
    · exact absurd h a1
    · exact absurd h a2
    · exact absurd h a3
    · exact h
  go_wp2_with fail
  refine (C1.out A.f _ HB3.out (.inr (.inr (.inr rfl)))).mono ?_
  rintro e w4 ⟨rfl, hb4⟩
  have HB4 := Lib.hid (HB3.out.trans (hb4.mono HB3.out.size))
  clear hb4 g1 g2 g3 g4
  rw [decide_eq_true a4]
  clear a1 a2 a3 a4 ho
  go_wp2_with fail
  go_ret
  exact ⟨rfl, HB4.out⟩
theorem number_nilB (A : Snt) (w : World) (hA : Lds A w) :
    Calls Tryd.prog 18 #[.nilIface] w fun e w' => e = .returned (.int .i64 0) ∧ Below w.heap.size w w' :=
  (number_nil A w hA).mono (by rintro e w' ⟨rfl, rfl⟩; exact ⟨rfl, Below.refl _ _⟩)

theorem put4_cell_ {W : World} {g : Nat} {p : Addr} {u v0 v1 v2 v3 : Value} (h : W.cell? p = some u) (hg : ¬ g = p.block) : ((((W.setCell ⟨g, 0, none⟩ v0).setCell ⟨g, 1, none⟩ v1).setCell ⟨g, 2, none⟩ v2).setCell ⟨g, 3, none⟩ v3).cell? p = some u := by
  rw [World.cell?_setCell_far _ _ _ _ hg, World.cell?_setCell_far _ _ _ _ hg, World.cell?_setCell_far _ _ _ _ hg, World.cell?_setCell_far _ _ _ _ hg]
  exact h
end Go.Proofs.YtlncacfflalacaaDoor
