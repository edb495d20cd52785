/- Faults of layer 14: the two sentinels that stand in the package's variables, errors.Is over a fault round one of them, numberOf, check. -/
import Derived.Test.YtahgaogmcffglaaDoorJRecO
import Derived.LaidEql
import Derived.Stop.Asserts
import Derived.Stop.IfaceNil
import Derived.RowKitTokens
import Derived.Deep.RegionHeld3
namespace Go.Proofs.YtahgaogmcffglaaDoor
open Go.RowKit Go.Extern.Stop Go.Stop Go.Extern

/-- Where the two sentinels' texts lie. -/
structure Snt14 where
  s : Addr
  r : Addr
def OneOf14 (A : Snt14) (a : Addr) : Prop := a = A.s ∨ a = A.r
def snt14 (a : Addr) : Value := .iface 142 (.pointer (some a))
/-- The variables of the package. -/
structure Lds14 (A : Snt14) (w : World) : Prop where
  cs : w.cell? ⟨1, 0, none⟩ = some (snt14 A.s)
  cr : w.cell? ⟨0, 0, none⟩ = some (snt14 A.r)
  row : ∀ a, OneOf14 A a → ∃ c t, w.heap[a.block]? = some (.cells c t (0, 0))
  ne : A.s ≠ A.r
theorem Lds14.below {A : Snt14} {w w' : World} {B : Nat} (h : Lds14 A w) (hb : Below B w w') (hB : w.heap.size ≤ B) : Lds14 A w' := by
  have k : ∀ {p : Addr} {v : Value}, w.cell? p = some v → w'.cell? p = some v := fun hc => (hb.cell (Nat.lt_of_lt_of_le (World.block_lt_of_cell? w _ hc) hB)).trans hc
  refine ⟨k h.cs, k h.cr, ?_, h.ne⟩
  intro a ha
  obtain ⟨c, t, hc⟩ := h.row a ha
  have hl : a.block < w.heap.size := by
    rcases Nat.lt_or_ge a.block w.heap.size with h1 | h1
    · exact h1
    · rw [Array.getElem?_eq_none h1] at hc; cases hc
  exact ⟨c, t, (hb.block a.block (Nat.lt_of_lt_of_le hl hB)).trans hc⟩
/-- A fault round a sentinel. -/
def flt14 (s : ByteArray) (a : Addr) : Value := .iface 111 (.agg #[.string s, snt14 a])

theorem isTypeOf14 (v : Value) (w : World) : (Extern.ReflectliteType.typeOf #[.iface 142 v]).run Tryd.prog w = .ok (.iface 130 (.agg #[.pointer (some ⟨2, 142, none⟩)])) w := by kernel_rfl
theorem isComparable14 (w : World) : ((Extern.ReflectliteType.method fun t => do Extern.Rtype.noPackHeld "Comparable" t; (fun a => Value.bool a.comparable) <$> typeInfo t) #[.agg #[.pointer (some ⟨2, 142, none⟩)]]).run Tryd.prog w = .ok (.bool true) w := by kernel_rfl
theorem isMethodComparable14 (n : Nat) (v : Value) (w : World) : (Go.method (n + 8) 130 v "Comparable").run Tryd.prog w = .ok (102, v) w := by kernel_rfl
theorem isComp14 : (Tryd.prog.info? 142).map (·.comparable) = some true := by kernel_rfl
theorem isSize14 : (Tryd.prog.info? 166).map (·.size) = some 1 := by kernel_rfl
theorem noIsE14 (v : Value) (xT : TypeId) (w : World) : (Instr.typeAssert (.iface 142 v) xT 132 true).run Tryd.prog w = .ok (.tuple #[.nilIface, .bool false]) w := run_typeAssert_lacksB Tryd.underlying132 (by kernel_rfl) (by kernel_rfl) v xT w
theorem noUnwrapE14 (v : Value) (xT : TypeId) (w : World) : (Instr.typeAssert (.iface 142 v) xT 135 true).run Tryd.prog w = .ok (.tuple #[.nilIface, .bool false]) w := run_typeAssert_lacksB Tryd.underlying135 (by kernel_rfl) (by kernel_rfl) v xT w
theorem noUnwrapsE14 (v : Value) (xT : TypeId) (w : World) : (Instr.typeAssert (.iface 142 v) xT 137 true).run Tryd.prog w = .ok (.tuple #[.nilIface, .bool false]) w := run_typeAssert_lacksB Tryd.underlying137 (by kernel_rfl) (by kernel_rfl) v xT w
theorem noIsW14 (v : Value) (xT : TypeId) (w : World) : (Instr.typeAssert (.iface 111 v) xT 132 true).run Tryd.prog w = .ok (.tuple #[.nilIface, .bool false]) w := run_typeAssert_lacksB Tryd.underlying132 (by kernel_rfl) (by kernel_rfl) v xT w
theorem hasUnwrapW14 (v : Value) (xT : TypeId) (w : World) : (Instr.typeAssert (.iface 111 v) xT 135 true).run Tryd.prog w = .ok (.tuple #[.iface 111 v, .bool true]) w := run_typeAssert_hasB Tryd.underlying135 (by kernel_rfl) v xT w
theorem methodUnwrap14 (n : Nat) (v : Value) (w : World) : (Go.method (n + 8) 111 v "Unwrap").run Tryd.prog w = .ok (98, v) w := by kernel_rfl

/-- How many faults stand ahead of the sentinel. -/
def lnk14 : Value → Nat
  | .iface _ (.agg _) => 1
  | _ => 0
set_option maxRecDepth 1000000 in
set_option maxHeartbeats 4000000 in
theorem is14_any (A : Snt14) (s : ByteArray) (a b : Addr) (w : World) (hA : Lds14 A w) (hoa : OneOf14 A a) (hob : OneOf14 A b) :
    Calls Tryd.prog 77 #[flt14 s a, snt14 b, .bool true] w fun e w' => e = .returned (.bool (decide (a = b))) ∧ Below w.heap.size w w' := by
  obtain ⟨i, hi, hcmp⟩ := Option.map_eq_some_iff.1 isComp14
  obtain ⟨j, hj, hjs⟩ := Option.map_eq_some_iff.1 isSize14
  have nE := noIsE14
  have uE := noUnwrapE14
  have vE := noUnwrapsE14
  have nW := noIsW14
  have uW := hasUnwrapW14
  have mU := methodUnwrap14
  have HA := Lib.hid hA
  have HOA := Lib.hid hoa
  have HOB := Lib.hid hob
  obtain ⟨R, hR⟩ : ∃ R, R = decide (a = b) := ⟨_, rfl⟩
  rw [← hR]
  have HR := Lib.hid hR
  clear hA hR hoa hob
  unfold snt14
  go_enter Tryd.func77, Tryd.ntmps77
  go_wp2_with fail
  go_loopw [0] (fun E' wl => Hid (Below w.heap.size w wl) ∧ (E' = flt14 s a ∨ E' = snt14 a)) (fun E' _ => lnk14 E')
  case atStart => exact ⟨Below.refl _ _, .inl rfl⟩
  case round =>
    obtain ⟨HB, rfl | rfl⟩ := hrel
    · unfold flt14 snt14 at *
      have hty := run_eql_iface_types (P := Tryd.prog) 111 142 (.agg #[.string s, .iface 142 (.pointer (some a))]) (.pointer (some b)) Tryd.underlying101 (by decide) wr
      have q1 := fun (W : World) (u : TypeId) (x : Value) => run_eql_iface_nil (P := Tryd.prog) (w := W) 101 (by kernel_rfl) u x
      go_wp2
      go_roundw
      case rel => exact ⟨HB.out.trans (((Below.refl _ _).alloc (Nat.le_refl _) _).mono HB.out.size), .inr rfl⟩
      case measure => exact Nat.zero_lt_one
    · have hA2 := HA.out.below HB.out (Nat.le_refl _)
      obtain ⟨cb, tb, hb⟩ := hA2.row b HOB.out
      obtain ⟨ca, ta, ha⟩ := hA2.row a HOA.out
      unfold snt14 at *
      by_cases hab : a = b
      · subst hab
        have hr : R = true := by rw [HR.out]; simp
        subst hr
        have heq := run_eql_iface_ptr_same (P := Tryd.prog) wr a Tryd.underlying101 Tryd.underlying142 hi hcmp hj
        clear hA2
        go_wp2_with fail
        go_ret
        exact ⟨rfl, HB.out⟩
      · have hr : R = false := by rw [HR.out]; simp [hab]
        subst hr
        have heq := run_eql_iface_ptr_other (P := Tryd.prog) wr Tryd.underlying101 Tryd.underlying142 hi hcmp hj (by rw [hjs]; decide) hab ha hb
        clear hA2
        go_wp2_with fail
        go_ret
        exact ⟨rfl, HB.out⟩

set_option maxRecDepth 1000000 in
set_option maxHeartbeats 4000000 in
/-- errors.Is of a fault. -/
theorem eis14_any (A : Snt14) (s : ByteArray) (a b : Addr) (w : World) (hA : Lds14 A w) (hoa : OneOf14 A a) (hob : OneOf14 A b) :
    Calls Tryd.prog 71 #[flt14 s a, snt14 b] w fun e w' => e = .returned (.bool (decide (a = b))) ∧ Below w.heap.size w w' := by
  have h8 := @run_callFunc_extern Tryd.prog 76 _ Extern.ReflectliteType.typeOf Tryd.func76 (by kernel_rfl) (by kernel_rfl) (by kernel_rfl) (by kernel_rfl)
  have h32 := @run_callFunc_extern Tryd.prog 102 _ (Extern.ReflectliteType.method fun t => do Extern.Rtype.noPackHeld "Comparable" t; pure (.bool (← typeInfo t).comparable)) Tryd.func102 (by kernel_rfl) (by kernel_rfl) (by kernel_rfl) (by kernel_rfl)
  have tT := isTypeOf14
  have cT := isComparable14
  have mR := isMethodComparable14
  have C1 := Lib.hid (is14_any A s a b w hA hoa hob)
  have q1 := fun (W : World) (u : TypeId) (x : Value) => run_eql_iface_nil (P := Tryd.prog) (w := W) 101 (by kernel_rfl) u x
  generalize decide (a = b) = R at *
  clear hA hoa hob
  unfold flt14 snt14 at *
  go_enter Tryd.func71, Tryd.ntmps71
  go_wp2_with (first
    | (go_at_call 77; refine C1.out.mono ?_; rintro e w1 ⟨rfl, hb⟩; have HB := Lib.hid hb; clear hb)
    | go_in)
  go_ret
  exact ⟨rfl, HB.out⟩

set_option maxRecDepth 1000000 in
set_option maxHeartbeats 4000000 in
/-- errors.Is of nil. -/
theorem eis14_nil (b : Addr) (w : World) :
    Calls Tryd.prog 71 #[.nilIface, snt14 b] w fun e w' => e = .returned (.bool false) ∧ w = w' := by
  have hn := fun (W : World) (p : Value) => run_eql_iface_nil_left (P := Tryd.prog) W 142 p Tryd.underlying101
  unfold snt14
  go_enter Tryd.func71, Tryd.ntmps71
  go_wp2
  go_ret
  exact ⟨rfl, rfl⟩

set_option maxRecDepth 100000 in
set_option maxHeartbeats 4000000 in
theorem number14_nil (A : Snt14) (w : World) (hA : Lds14 A w) :
    Calls Tryd.prog 66 #[.nilIface] w fun e w' => e = .returned (.int .i64 0) ∧ w = w' := by
  have cs := hA.cs
  have cr := hA.cr
  clear hA
  have C1 := Lib.hid (fun b => eis14_nil b w)
  unfold snt14 at *
  go_enter Tryd.func66, Tryd.ntmps66
  go_wp2_with (first
    | (go_at_call 71; refine (C1.out _).mono ?_; rintro e w1 ⟨rfl, rfl⟩)
    | fail)
  go_ret
  exact ⟨rfl, rfl⟩

set_option maxRecDepth 100000 in
set_option maxHeartbeats 4000000 in
theorem number14_s (A : Snt14) (s : ByteArray) (w : World) (hA : Lds14 A w) :
    Calls Tryd.prog 66 #[flt14 s A.s] w fun e w' => e = .returned (.int .i64 30) ∧ Below w.heap.size w w' := by
  have cs := hA.cs
  have C1 := Lib.hid (eis14_any A s A.s A.s w hA (.inl rfl) (.inl rfl))
  rw [decide_eq_true rfl] at C1
  clear hA
  unfold flt14 snt14 at *
  go_enter Tryd.func66, Tryd.ntmps66
  go_wp2_with fail
  refine C1.out.mono ?_
  rintro e w1 ⟨rfl, hb1⟩
  have HB := Lib.hid hb1
  clear hb1
  go_wp2_with fail
  go_ret
  exact ⟨rfl, HB.out⟩

set_option maxRecDepth 100000 in
set_option maxHeartbeats 4000000 in
theorem number14_r (A : Snt14) (s : ByteArray) (w : World) (hA : Lds14 A w) :
    Calls Tryd.prog 66 #[flt14 s A.r] w fun e w' => e = .returned (.int .i64 140) ∧ Below w.heap.size w w' := by
  have cs := hA.cs
  have C1 := Lib.hid (eis14_any A s A.r A.s w hA (.inr rfl) (.inl rfl))
  rw [decide_eq_false (fun e => hA.ne e.symm)] at C1
  have C2 := Lib.hid (fun W (h : Below w.heap.size w W) => eis14_any A s A.r A.r W (hA.below h (Nat.le_refl _)) (.inr rfl) (.inr rfl))
  rw [decide_eq_true rfl] at C2
  have CR := Lib.hid (fun W (h : Below w.heap.size w W) => (hA.below h (Nat.le_refl _)).cr)
  clear hA
  unfold flt14 snt14 at *
  go_enter Tryd.func66, Tryd.ntmps66
  go_wp2_with fail
  refine C1.out.mono ?_
  rintro e w1 ⟨rfl, hb1⟩
  have HB := Lib.hid hb1
  have cr := CR.out w1 hb1
  clear hb1 cs
  go_wp2_with fail
  refine (C2.out w1 HB.out).mono ?_
  rintro e w2 ⟨rfl, hb2⟩
  have HB2 := Lib.hid (HB.out.trans (hb2.mono HB.out.size))
  clear hb2 cr
  go_wp2_with fail
  go_ret
  exact ⟨rfl, HB2.out⟩

/-- May there be a record of that type, with that many bytes? -/
def mayR (t : Int) (n : Nat) : Prop := 1 ≤ t ∧ t ≤ 255 ∧ n ≤ 8192
/-- What check answers: nil, or a fault round the second sentinel. -/
def ChkR (A : Snt14) (p : Prop) (w : World) (e : Ending) (w' : World) : Prop := Below w.heap.size w w' ∧ ∃ E, e = .returned E ∧ (p → E = .nilIface) ∧ (¬ p → ∃ s, E = flt14 s A.r)

set_option maxRecDepth 100000 in
set_option maxHeartbeats 4000000 in
theorem check14_any (A : Snt14) (t : Int) (n : Nat) (w : World) (hA : Lds14 A w) :
    Calls Tryd.prog 58 #[.int .i64 t, .int .i64 (n : Int)] w (ChkR A (mayR t n) w) := by
  have cr := hA.cr
  unfold snt14 at cr
  clear hA
  unfold ChkR
  by_cases h1 : 1 ≤ t
  case neg =>
    have HN : Hid (¬ mayR t n) := fun h => h1 h.1
    go_enter Tryd.func58, Tryd.ntmps58
    go_wp2_with fail
    go_ret
    exact ⟨Below.refl _ _, _, rfl, fun h => absurd h HN.out, fun _ => ⟨_, rfl⟩⟩
  by_cases h2 : t ≤ 255
  case neg =>
    have HN : Hid (¬ mayR t n) := fun h => h2 h.2.1
    have d1 : decide (t < 1) = false := decide_eq_false (by omega)
    have d2 : decide (255 < t) = true := decide_eq_true (by omega)
    go_enter Tryd.func58, Tryd.ntmps58
    go_wp2_with fail
    go_ret
    exact ⟨Below.refl _ _, _, rfl, fun h => absurd h HN.out, fun _ => ⟨_, rfl⟩⟩
  by_cases h3 : n ≤ 8192
  case neg =>
    have HN : Hid (¬ mayR t n) := fun h => h3 h.2.2
    have h3i : ¬ (n : Int) ≤ 8192 := by omega
    have d1 : decide (t < 1) = false := decide_eq_false (by omega)
    have d2 : decide (255 < t) = false := decide_eq_false (by omega)
    go_enter Tryd.func58, Tryd.ntmps58
    go_wp2_with fail
    go_ret
    exact ⟨Below.refl _ _, _, rfl, fun h => absurd h HN.out, fun _ => ⟨_, rfl⟩⟩
  have HN : Hid (mayR t n) := ⟨h1, h2, h3⟩
  have h3i : (n : Int) ≤ 8192 := by omega
  have d1 : decide (t < 1) = false := decide_eq_false (by omega)
  have d2 : decide (255 < t) = false := decide_eq_false (by omega)
  go_enter Tryd.func58, Tryd.ntmps58
  go_wp2_with fail
  go_ret
  exact ⟨Below.refl _ _, _, rfl, fun _ => rfl, fun h => absurd HN.out h⟩

set_option maxRecDepth 100000 in
set_option maxHeartbeats 4000000 in
theorem sizeOf14_any (n : Nat) (w : World) (hn : n ≤ 140737488355328) :
    Calls Tryd.prog 59 #[.int .i64 (n : Int)] w fun e w' => e = .returned (.int .i64 ((n : Int) + 7)) ∧ w = w' := by
  have e1 : IntKind.i64.wrap (3 + (n : Int)) = 3 + (n : Int) := by rw [IntKind.wrap_i64]; omega
  have e2 : IntKind.i64.wrap (3 + (n : Int) + 4) = (n : Int) + 7 := by rw [IntKind.wrap_i64]; omega
  go_enter Tryd.func59, Tryd.ntmps59
  go_wp2_with fail
  go_ret
  exact ⟨rfl, rfl⟩
end Go.Proofs.YtahgaogmcffglaaDoor
