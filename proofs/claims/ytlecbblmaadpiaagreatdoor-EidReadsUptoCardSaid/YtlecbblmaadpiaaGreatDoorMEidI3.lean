/- errors.Is over the chains of layer 4: a sentinel, or a fault by value round such a chain; and numberOf. -/
import Derived.Test.YtlecbblmaadpiaaGreatDoorMEidC2
import Derived.Test.YtlecbblmaadpiaaGreatDoorMEidI2
import Derived.LaidEql
import Derived.Stop.Asserts
import Derived.Stop.IfaceNil
import Derived.RowKitTokens
import Derived.Deep.RegionHeld3
namespace Go.Proofs.YtlecbblmaadpiaaGreatDoor
open Go.RowKit Go.Extern.Stop Go.Stop Go.Extern
inductive Ch (A : Snt) : Nat → Value → Addr → Prop
  | leaf (a : Addr) : OneOf A a → Ch A 0 (snt a) a
  | wrap (k : Nat) (s : ByteArray) (t : TypeId) (v : Value) (a : Addr) : Ch A k (.iface t v) a → Ch A (k + 1) (.iface 149 (.agg #[.string s, .iface t v])) a
theorem isTypeOf (v : Value) (w : World) : (Extern.ReflectliteType.typeOf #[.iface 279 v]).run Tryz.prog w = .ok (.iface 236 (.agg #[.pointer (some ⟨11, 279, none⟩)])) w := by kernel_rfl
theorem isComparable (w : World) : ((Extern.ReflectliteType.method fun t => do Extern.Rtype.noPackHeld "Comparable" t; (fun a => Value.bool a.comparable) <$> typeInfo t) #[.agg #[.pointer (some ⟨11, 279, none⟩)]]).run Tryz.prog w = .ok (.bool true) w := by kernel_rfl
theorem isMethodComparable (n : Nat) (v : Value) (w : World) : (Go.method (n + 8) 236 v "Comparable").run Tryz.prog w = .ok (279, v) w := by kernel_rfl
theorem isComp : (Tryz.prog.info? 279).map (·.comparable) = some true := by kernel_rfl
theorem isSize : (Tryz.prog.info? 281).map (·.size) = some 1 := by kernel_rfl
theorem noIsE (v : Value) (xT : TypeId) (w : World) : (Instr.typeAssert (.iface 279 v) xT 238 true).run Tryz.prog w = .ok (.tuple #[.nilIface, .bool false]) w := run_typeAssert_lacksB Tryz.underlying238 (by kernel_rfl) (by kernel_rfl) v xT w
theorem noUnwrapE (v : Value) (xT : TypeId) (w : World) : (Instr.typeAssert (.iface 279 v) xT 241 true).run Tryz.prog w = .ok (.tuple #[.nilIface, .bool false]) w := run_typeAssert_lacksB Tryz.underlying241 (by kernel_rfl) (by kernel_rfl) v xT w
theorem noUnwrapsE (v : Value) (xT : TypeId) (w : World) : (Instr.typeAssert (.iface 279 v) xT 243 true).run Tryz.prog w = .ok (.tuple #[.nilIface, .bool false]) w := run_typeAssert_lacksB Tryz.underlying243 (by kernel_rfl) (by kernel_rfl) v xT w
theorem noIsW (v : Value) (xT : TypeId) (w : World) : (Instr.typeAssert (.iface 149 v) xT 238 true).run Tryz.prog w = .ok (.tuple #[.nilIface, .bool false]) w := run_typeAssert_lacksB Tryz.underlying238 (by kernel_rfl) (by kernel_rfl) v xT w
theorem hasUnwrapW (v : Value) (xT : TypeId) (w : World) : (Instr.typeAssert (.iface 149 v) xT 241 true).run Tryz.prog w = .ok (.tuple #[.iface 149 v, .bool true]) w := run_typeAssert_hasB Tryz.underlying241 (by kernel_rfl) v xT w
theorem methodUnwrap (n : Nat) (v : Value) (w : World) : (Go.method (n + 8) 149 v "Unwrap").run Tryz.prog w = .ok (268, v) w := by kernel_rfl
def links : Nat → Value → Nat
  | 0, _ => 0
  | n + 1, .iface _ (.agg #[_, v]) => links n v + 1
  | _ + 1, _ => 0
theorem Ch.len {A : Snt} {k : Nat} {E : Value} {a : Addr} (h : Ch A k E a) : ∀ n, k < n → links n E = k := by
  induction h with
  | leaf a _ =>
    intro n hn
    obtain ⟨m, rfl⟩ : ∃ m, n = m + 1 := ⟨n - 1, by omega⟩
    rfl
  | wrap k s t v a h ih =>
    intro n hn
    obtain ⟨m, rfl⟩ : ∃ m, n = m + 1 := ⟨n - 1, by omega⟩
    show links m (.iface t v) + 1 = k + 1
    rw [ih m (by omega)]
theorem Ch.one {A : Snt} {k : Nat} {E : Value} {a : Addr} (h : Ch A k E a) : OneOf A a := by
  induction h with
  | leaf a h => exact h
  | wrap k s t v a h ih => exact ih
set_option maxRecDepth 1000000 in
set_option maxHeartbeats 4000000 in
theorem is_any (A : Snt) (k : Nat) (E : Value) (a b : Addr) (w : World) (hA : Lds A w) (hch : Ch A k E a) (hk : k ≤ 8) (hob : OneOf A b) :
    Calls Tryz.prog 152 #[E, snt b, .bool true] w fun e w' => e = .returned (.bool (decide (a = b))) ∧ Below w.heap.size w w' := by
  obtain ⟨i, hi, hcmp⟩ := Option.map_eq_some_iff.1 isComp
  obtain ⟨j, hj, hjs⟩ := Option.map_eq_some_iff.1 isSize
  have nE := noIsE
  have uE := noUnwrapE
  have vE := noUnwrapsE
  have nW := noIsW
  have uW := hasUnwrapW
  have mU := methodUnwrap
  have HA := Lib.hid hA
  have HCH := Lib.hid hch
  obtain ⟨R, hR⟩ : ∃ R, R = decide (a = b) := ⟨_, rfl⟩
  rw [← hR]
  have HR := Lib.hid hR
  clear hA hch hR
  unfold snt
  go_enter Tryz.func152, Tryz.ntmps152
  go_wp2_with fail
  go_loopw [0] (fun E' wl => Hid (Below w.heap.size w wl) ∧ ∃ k', k' ≤ 8 ∧ Ch A k' E' a) (fun E' _ => links 9 E')
  case atStart => exact ⟨Below.refl _ _, k, hk, HCH.out⟩
  case round =>
    obtain ⟨HB, k', hk', hc'⟩ := hrel
    have hA2 := HA.out.below HB.out (Nat.le_refl _)
    obtain ⟨cb, tb, hb⟩ := hA2.row b hob
    have hlen0 := hc'.len 9 (by omega)
    cases hc' with
    | leaf a hoa =>
      obtain ⟨ca, ta, ha⟩ := hA2.row a hoa
      unfold snt at *
      by_cases hab : a = b
      · subst hab
        have hr : R = true := by rw [HR.out]; simp
        subst hr
        have heq := run_eql_iface_ptr_same (P := Tryz.prog) wr a Tryz.underlying95 Tryz.underlying279 hi hcmp hj
        clear hA2
        go_wp2_with fail
        go_ret
        exact ⟨rfl, HB.out⟩
      · have hr : R = false := by rw [HR.out]; simp [hab]
        subst hr
        have heq := run_eql_iface_ptr_other (P := Tryz.prog) wr Tryz.underlying95 Tryz.underlying279 hi hcmp hj (by rw [hjs]; decide) hab ha hb
        clear hA2
        go_wp2_with fail
        go_ret
        exact ⟨rfl, HB.out⟩
    | wrap k1 s t v a h1 =>
      have hty := run_eql_iface_types (P := Tryz.prog) 149 279 (.agg #[.string s, .iface t v]) (.pointer (some b)) Tryz.underlying95 (by decide) wr
      have hlen := h1.len 9 (by omega)
      have q1 := fun (W : World) (u : TypeId) (x : Value) => run_eql_iface_nil (P := Tryz.prog) (w := W) 95 (by kernel_rfl) u x
      have HC := Lib.hid h1
      have HL := Lib.hid hlen
      have HL0 := Lib.hid hlen0
      clear h1 hA2 hlen hlen0
      go_wp2
      go_roundw
      case rel => exact ⟨HB.out.trans (((Below.refl _ _).alloc (Nat.le_refl _) _).mono HB.out.size), k1, by omega, HC.out⟩
      case measure =>
        show links 9 (.iface t v) < _
        rw [HL.out, HL0.out]
        exact Nat.lt_succ_self _
set_option maxRecDepth 1000000 in
set_option maxHeartbeats 4000000 in
theorem eis_any (A : Snt) (k : Nat) (E : Value) (a b : Addr) (w : World) (hA : Lds A w) (hch : Ch A k E a) (hk : k ≤ 8) (hob : OneOf A b) :
    Calls Tryz.prog 117 #[E, snt b] w fun e w' => e = .returned (.bool (decide (a = b))) ∧ Below w.heap.size w w' := by
  have h8 := @run_callFunc_extern Tryz.prog 151 _ Extern.ReflectliteType.typeOf Tryz.func151 (by kernel_rfl) (by kernel_rfl) (by kernel_rfl) (by kernel_rfl)
  have h32 := @run_callFunc_extern Tryz.prog 279 _ (Extern.ReflectliteType.method fun t => do Extern.Rtype.noPackHeld "Comparable" t; pure (.bool (← typeInfo t).comparable)) Tryz.func279 (by kernel_rfl) (by kernel_rfl) (by kernel_rfl) (by kernel_rfl)
  have tT := isTypeOf
  have cT := isComparable
  have mR := isMethodComparable
  have C1 := Lib.hid (is_any A k E a b w hA hch hk hob)
  have q1 := fun (W : World) (u : TypeId) (x : Value) => run_eql_iface_nil (P := Tryz.prog) (w := W) 95 (by kernel_rfl) u x
  generalize decide (a = b) = R at *
  obtain ⟨t, v, rfl⟩ : ∃ t v, E = .iface t v := by cases hch <;> exact ⟨_, _, rfl⟩
  clear hA hch hob
  unfold snt at *
  go_enter Tryz.func117, Tryz.ntmps117
  go_wp2_with (first
    | (go_at_call 152; refine C1.out.mono ?_; rintro e w1 ⟨rfl, hb⟩; have HB := Lib.hid hb; clear hb)
    | go_in)
  go_ret
  exact ⟨rfl, HB.out⟩
set_option maxRecDepth 1000000 in
set_option maxHeartbeats 4000000 in
theorem eis_nil (b : Addr) (w : World) :
    Calls Tryz.prog 117 #[.nilIface, snt b] w fun e w' => e = .returned (.bool false) ∧ w = w' := by
  have hn := fun (W : World) (p : Value) => run_eql_iface_nil_left (P := Tryz.prog) W 279 p Tryz.underlying95
  unfold snt
  go_enter Tryz.func117, Tryz.ntmps117
  go_wp2
  go_ret
  exact ⟨rfl, rfl⟩
set_option maxRecDepth 100000 in
set_option maxHeartbeats 4000000 in
theorem number_nil (A : Snt) (w : World) (hA : Lds A w) :
    Calls Tryz.prog 66 #[.nilIface] w fun e w' => e = .returned (.int .i64 0) ∧ w = w' := by
  have cs := hA.cs
  have cn := hA.cn
  have cu := hA.cu
  have cf := hA.cf
  clear hA
  unfold snt at *
  have C1 := Lib.hid (fun b => eis_nil b w)
  unfold snt at *
  go_enter Tryz.func66, Tryz.ntmps66
  go_wp2_with (first
    | (go_at_call 117; refine (C1.out _).mono ?_; rintro e w1 ⟨rfl, rfl⟩)
    | fail)
  go_ret
  exact ⟨rfl, rfl⟩
set_option maxRecDepth 100000 in
set_option maxHeartbeats 4000000 in
theorem number_ch (A : Snt) (k : Nat) (E : Value) (a : Addr) (w : World) (hA : Lds A w) (hch : Ch A k E a) (hk : k ≤ 8) :
    Calls Tryz.prog 66 #[E] w fun e w' => e = .returned (.int .i64 40) ∧ Below w.heap.size w w' := by
  have L1 := fun (W : World) (hb : Below w.heap.size w W) => hA.below hb (Nat.le_refl _)
  have C1 := Lib.hid (fun (b : Addr) (W : World) (hb : Below w.heap.size w W) (ho : OneOf A b) => eis_any A k E a b W (L1 W hb) hch hk ho)
  have G : ∀ W, Below w.heap.size w W → W.cell? ⟨0, 0, none⟩ = some (snt A.s) ∧ W.cell? ⟨1, 0, none⟩ = some (snt A.n) ∧ W.cell? ⟨2, 0, none⟩ = some (snt A.u) ∧ W.cell? ⟨3, 0, none⟩ = some (snt A.f) := fun W hb => ⟨(L1 W hb).cs, (L1 W hb).cn, (L1 W hb).cu, (L1 W hb).cf⟩
  have G0 := G w (Below.refl _ _)
  obtain ⟨g1, g2, g3, g4⟩ := G0
  have HG := Lib.hid G
  have ho := hch.one
  have HO := Lib.hid hA.ne
  clear G hA hch L1
  unfold snt at *
  go_enter Tryz.func66, Tryz.ntmps66
  go_wp2_with fail
  refine (C1.out A.s _ (Below.refl _ _) (.inl rfl)).mono ?_
  rintro e w1 ⟨rfl, hb1⟩
  have G1 := HG.out w1 hb1
  have HB1 := Lib.hid hb1
  clear hb1 g1 g2 g3 g4
  obtain ⟨g1, g2, g3, g4⟩ := G1
  by_cases a1 : a = A.s
  · rw [decide_eq_true a1]
    clear a1 ho
    go_wp2_with fail
    go_ret
    exact ⟨rfl, HB1.out⟩
  rw [decide_eq_false a1]
  go_wp2_with fail
  refine (C1.out A.n _ HB1.out (.inr (.inl rfl))).mono ?_
  rintro e w2 ⟨rfl, hb2⟩
  have hb2' := HB1.out.trans (hb2.mono HB1.out.size)
  have G1 := HG.out w2 hb2'
  have HB2 := Lib.hid hb2'
  clear hb2 hb2' g1 g2 g3 g4
  obtain ⟨g1, g2, g3, g4⟩ := G1
  by_cases a2 : a = A.n
  · rw [decide_eq_true a2]
    clear a1 a2 ho
    go_wp2_with fail
    go_ret
    exact ⟨rfl, HB2.out⟩
  rw [decide_eq_false a2]
  go_wp2_with fail
  refine (C1.out A.u _ HB2.out (.inr (.inr (.inl rfl)))).mono ?_
  rintro e w3 ⟨rfl, hb3⟩
  have hb3' := HB2.out.trans (hb3.mono HB2.out.size)
  have G1 := HG.out w3 hb3'
  have HB3 := Lib.hid hb3'
  clear hb3 hb3' g1 g2 g3 g4
  obtain ⟨g1, g2, g3, g4⟩ := G1
  by_cases a3 : a = A.u
  · rw [decide_eq_true a3]
    clear a1 a2 a3 ho
    go_wp2_with fail
    go_ret
    exact ⟨rfl, HB3.out⟩
  rw [decide_eq_false a3]
  have a4 : a = A.f := by
    rcases ho with h | h | h | h
    · exact absurd h a1
    · exact absurd h a2
    · exact absurd h a3
    · exact h
  go_wp2_with fail
  refine (C1.out A.f _ HB3.out (.inr (.inr (.inr rfl)))).mono ?_
  rintro e w4 ⟨rfl, hb4⟩
  have HB4 := Lib.hid (HB3.out.trans (hb4.mono HB3.out.size))
  clear hb4 g1 g2 g3 g4
  rw [decide_eq_true a4]
  clear a1 a2 a3 a4 ho
  go_wp2_with fail
  go_ret
  exact ⟨rfl, HB4.out⟩
theorem number_nilB (A : Snt) (w : World) (hA : Lds A w) :
    Calls Tryz.prog 66 #[.nilIface] w fun e w' => e = .returned (.int .i64 0) ∧ Below w.heap.size w w' :=
  (number_nil A w hA).mono (by rintro e w' ⟨rfl, rfl⟩; exact ⟨rfl, Below.refl _ _⟩)
theorem put4_cell_ {W : World} {g : Nat} {p : Addr} {u v0 v1 v2 v3 : Value} (h : W.cell? p = some u) (hg : ¬ g = p.block) : ((((W.setCell ⟨g, 0, none⟩ v0).setCell ⟨g, 1, none⟩ v1).setCell ⟨g, 2, none⟩ v2).setCell ⟨g, 3, none⟩ v3).cell? p = some u := by
  rw [World.cell?_setCell_far _ _ _ _ hg, World.cell?_setCell_far _ _ _ _ hg, World.cell?_setCell_far _ _ _ _ hg, World.cell?_setCell_far _ _ _ _ hg]
  exact h
end Go.Proofs.YtlecbblmaadpiaaGreatDoor
/- What written and Item of layer 4 return. -/
namespace Go.Proofs.YtlecbblmaadpiaaGreatDoor
open Go.RowKit
def zeroItem : Value := .agg #[.int .i64 0, .int .u64 0, .slice none 0 0, .slice none 0 0]
def eflt (s : ByteArray) (v : Value) : Value := .iface 149 (.agg #[.string s, v])
def Writ (A : Snt) (E : Epd) (w : World) (e : Ending) (w' : World) : Prop := Below w.heap.size w w' ∧
  ((checkB E = true ∧ ∃ v, e = .returned (.tuple #[v, .nilIface]) ∧ RdI (mask (lows w.heap.size) w') w'.heap.size v (itemE E)) ∨
   (checkB E = false ∧ ∃ a s, OneOf A a ∧ e = .returned (.tuple #[zeroItem, eflt s (snt a)])))
theorem par_beh (e : Epd) : pars [.mk 0 e.scheme.toNat [] [], behI e] ≤ 1000000 := by
  unfold behI
  split
  · simp [pars, par]
  · split <;> simp [pars, par]
set_option maxRecDepth 100000 in
set_option maxHeartbeats 1000000 in
theorem written_any (A : Snt) (sc : Int) (s : ByteArray) (n v : Nat) (w : World) (hA : Lds A w) (hs : s.size ≤ 140737488355328) (hn : n < 18446744073709551616) (hv : v < 18446744073709551616) :
    Calls Tryz.prog 65 #[epdV sc s n v] w (Writ A (ep sc s n v) w) := by
  have hA2 := (hA.alloc (.cells #[.int .i64 sc, .string s, .int .u64 (n : Int), .int .u64 (v : Int)] 25)).alloc (.cells #[.int .i64 0, .int .u64 0, .slice none 0 0, .slice none 0 0] 30)
  have C1 := Lib.hid (echeck_any A sc s n v _ hA2 hs)
  have q1 := fun (W : World) (u : TypeId) (x : Value) => run_neq_iface_nil (P := Tryz.prog) (w := W) 95 (by kernel_rfl) u x
  clear hA hA2
  cases hc : checkB (ep sc s n v) with
  | false =>
    rw [hc] at C1
    have HW : Hid (∀ e w', Below w.heap.size w w' → (∃ a s, OneOf A a ∧ e = .returned (.tuple #[zeroItem, eflt s (snt a)])) → Writ A (ep sc s n v) w e w') := fun e w' h1 h2 => ⟨h1, .inr ⟨hc, h2⟩⟩
    clear hc
    unfold epdV at *
    go_enter Tryz.func65, Tryz.ntmps65
    go_wp2_with fail
    refine C1.out.mono ?_
    rintro e w1 ⟨hb, ⟨h, -⟩ | ⟨-, a, ha, rfl⟩⟩
    · cases h
    have hb2 := hb.mono (show w.heap.size + 2 ≤ _ by simp)
    obtain ⟨⟨z0, z1, z2, z3⟩, f0, f1, f2, f3⟩ := zero4 (g := w.heap.size + 1) (by simp) hb2
    have HB2 := Lib.hid hb2
    have HO := Lib.hid ha
    clear hb hb2 ha
    unfold snt
    go_wp2_with fail
    refine bodyPost_ret (v := .tuple #[zeroItem, eflt ⟨#[101, 110, 100, 112, 111, 105, 110, 116]⟩ (snt a)]) (by simp [results, Tryz.results65, go_sem, z0, z1, z2, z3, zeroItem, eflt, snt]) rfl (HW.out _ _ ?_ ⟨a, _, HO.out, rfl⟩)
    exact below_set4 ((((Below.refl _ _).alloc (Nat.le_refl _) _).alloc (le_alloc _ _) _).trans (HB2.out.mono (Nat.le_add_right _ 2))) (Nat.le_succ _)
  | true =>
    rw [hc] at C1
    have hpar := par_beh (ep sc s n v)
    have hit := itemE_beh (ep sc s n v)
    rw [show (ep sc s n v).scheme = sc from rfl] at hpar hit
    have CB := Lib.hid (fun (W : World) => ebehind_any sc s n v W hc hs hn hv)
    have HW : Hid (∀ e w', Below w.heap.size w w' → (∃ v0, e = .returned (.tuple #[v0, .nilIface]) ∧ RdI (mask (lows w.heap.size) w') w'.heap.size v0 (.mk 4 0 [] [.mk 0 sc.toNat [] [], behI (ep sc s n v)])) → Writ A (ep sc s n v) w e w') := fun e w' h1 h2 => ⟨h1, .inl ⟨hc, by rw [hit]; exact h2⟩⟩
    have h12 : sc = 1 ∨ sc = 2 := by
      by_cases h1 : sc = 1
      · exact .inl h1
      · exact .inr (check_ipn hc h1).1
    have hwr : IntKind.u64.wrap sc = sc := by rcases h12 with rfl | rfl <;> rfl
    have CU : Hid (∀ (W : World), Calls Tryz.prog 115 #[.int .u64 (IntKind.u64.wrap sc)] W (GivesL (w.heap.size + 2) (.mk 0 sc.toNat [] []) W)) := fun W => by
      rw [hwr]
      have h := cuintL_any (w.heap.size + 2) sc.toNat W (by rcases h12 with rfl | rfl <;> decide)
      rw [show ((sc.toNat : Nat) : Int) = sc by rcases h12 with rfl | rfl <;> rfl] at h
      exact h
    have HPAR := Lib.hid hpar
    generalize behI (ep sc s n v) = bi at *
    clear hc hit hpar h12 hwr
    unfold epdV at *
    generalize sc.toNat = scn at *
    go_enter Tryz.func65, Tryz.ntmps65
    go_wp2_with fail
    refine C1.out.mono ?_
    rintro e w1 ⟨hb, ⟨-, rfl⟩ | ⟨h, -⟩⟩
    case inr => cases h
    have g1 := box_cells4 ((((Below.refl (w.alloc (.cells #[.int .i64 sc, .string s, .int .u64 (n : Int), .int .u64 (v : Int)] 25)).heap.size _).alloc (Nat.le_refl _) _)).trans (hb.mono (le_alloc _ _)))
    have HB := Lib.hid (hb.mono (show w.heap.size + 2 ≤ _ by simp))
    have HZ1 : Hid (w.heap.size + 2 ≤ w1.heap.size) := by show _ ≤ _; have h := hb.size; simpa using h
    clear hb
    obtain ⟨g10, g11, g12, g13⟩ := g1
    have HNE : Hid (¬ w.heap.size + 1 = w.heap.size) := Nat.succ_ne_self _
    go_wp2_with fail
    have hlt0 : w.heap.size < w1.heap.size := Nat.lt_of_lt_of_le (by omega) HZ1.out
    go_region_held3 (fun W => W.cell? ⟨w.heap.size, 0, none⟩ = some (.int .i64 sc) ∧ W.cell? ⟨w.heap.size, 1, none⟩ = some (.string s) ∧ W.cell? ⟨w.heap.size, 2, none⟩ = some (.int .u64 (n : Int)) ∧ W.cell? ⟨w.heap.size, 3, none⟩ = some (.int .u64 (v : Int)))
      (first | (with_reducible exact ⟨x0, x1, x2, x3⟩) | (with_reducible exact ⟨put4_cell x0 HNE.out, put4_cell x1 HNE.out, put4_cell x2 HNE.out, put4_cell x3 HNE.out⟩) | (with_reducible exact ⟨u0, u1, u2, u3⟩) | (with_reducible exact ⟨(World.cell?_alloc_lt w3 _ ⟨w.heap.size, 0, none⟩ H3.out).trans u0, (World.cell?_alloc_lt w3 _ ⟨w.heap.size, 1, none⟩ H3.out).trans u1, (World.cell?_alloc_lt w3 _ ⟨w.heap.size, 2, none⟩ H3.out).trans u2, (World.cell?_alloc_lt w3 _ ⟨w.heap.size, 3, none⟩ H3.out).trans u3⟩) | (with_reducible exact ⟨t0, t1, t2, t3⟩) | (exact ⟨g10, g11, g12, g13⟩) | fail)
      (first
        | (go_at_call 115; refine (CU.out _).mono ?_; rintro e w2 ⟨v2, rfl, hv2, hb2⟩; have hb2' : Below w1.heap.size w1 w2 := Below.drew_.trans hb2; have t0 := (hb2'.cell (p := ⟨w.heap.size, 0, none⟩) hlt0).trans g10; have t1 := (hb2'.cell (p := ⟨w.heap.size, 1, none⟩) hlt0).trans g11; have t2 := (hb2'.cell (p := ⟨w.heap.size, 2, none⟩) hlt0).trans g12; have t3 := (hb2'.cell (p := ⟨w.heap.size, 3, none⟩) hlt0).trans g13; obtain ⟨k2, n2, A2, nd2, cd2, AL2, nl2, cl2, rfl⟩ := hv2.form; have V2 := Lib.hid hv2; have B2 := Lib.hid hb2'; clear hv2 hb2 hb2')
        | (go_at_call 116; refine (CB.out _).mono ?_; rintro e w3 ⟨v3, rfl, hv3, hb3⟩; have V3 := Lib.hid (V2.out.grow hb3 (Nat.le_refl _)); have W3 := Lib.hid (hv3.grow (Below.refl _ _) (Nat.le_trans HZ1.out B2.out.size)); have hb3' := B2.out.trans (hb3.mono B2.out.size); have u0 := (hb3'.cell (p := ⟨w.heap.size, 0, none⟩) hlt0).trans g10; have u1 := (hb3'.cell (p := ⟨w.heap.size, 1, none⟩) hlt0).trans g11; have u2 := (hb3'.cell (p := ⟨w.heap.size, 2, none⟩) hlt0).trans g12; have u3 := (hb3'.cell (p := ⟨w.heap.size, 3, none⟩) hlt0).trans g13; obtain ⟨k3, n3, A3, nd3, cd3, AL3, nl3, cl3, rfl⟩ := hv3.form; have B3 := Lib.hid hb3'; have H3 : Hid (w.heap.size < w3.heap.size) := Nat.lt_of_lt_of_le hlt0 hb3'.size; clear hv3 hb3 hb3')
        | (go_at_call 114; refine (carray_two (Nat.le_trans HZ1.out B3.out.size) V3.out W3.out HPAR.out).mono ?_; rintro e w4 ⟨v4, rfl, hv4, hb4⟩; have hb4' := (B3.out.alloc B3.out.size _).trans (hb4.mono (Nat.le_trans B3.out.size (le_alloc _ _))); have x0 := (hb4'.cell (p := ⟨w.heap.size, 0, none⟩) hlt0).trans g10; have x1 := (hb4'.cell (p := ⟨w.heap.size, 1, none⟩) hlt0).trans g11; have x2 := (hb4'.cell (p := ⟨w.heap.size, 2, none⟩) hlt0).trans g12; have x3 := (hb4'.cell (p := ⟨w.heap.size, 3, none⟩) hlt0).trans g13; obtain ⟨k4, n4, A4, nd4, cd4, AL4, nl4, cl4, rfl⟩ := hv4.form; have V4 := Lib.hid hv4; have hb5 := HB.out.trans (hb4'.mono HZ1.out); obtain ⟨⟨z0, z1, z2, z3⟩, f0, f1, f2, f3⟩ := zero4 (g := w.heap.size + 1) (by simp) hb5; have B4 := Lib.hid hb5; clear hv4 hb4 hb4' hb5)
        | fail)
    go_wp2_with fail
    refine bodyPost_ret (v := .tuple #[.agg #[.int .i64 k4, .int .u64 (n4 : Int), .slice A4 nd4 cd4, .slice AL4 nl4 cl4], .nilIface]) (by simp [results, Tryz.results65, go_sem, z0, z1, z2, z3]) rfl (HW.out _ _ ?_ ⟨_, rfl, ?_⟩)
    · exact below_set4 ((((Below.refl _ _).alloc (Nat.le_refl _) _).alloc (le_alloc _ _) _).trans (B4.out.mono (Nat.le_add_right _ 2))) (Nat.le_succ _)
    · exact V4.out.put4 (Nat.le_add_right _ 2) (Nat.lt_succ_self _) (Nat.le_of_eq size_put4.symm)
def ItmE (E : Epd) (w : World) (e : Ending) (w' : World) : Prop := Below w.heap.size w w' ∧
  ((checkB E = true ∧ ∃ v, e = .returned (.tuple #[v, .int .i64 0]) ∧ RdI w' w'.heap.size v (itemE E)) ∨
   (checkB E = false ∧ e = .returned (.tuple #[zeroItem, .int .i64 40])))
set_option maxRecDepth 100000 in
set_option maxHeartbeats 1000000 in
theorem item_any (A : Snt) (sc : Int) (s : ByteArray) (n0 v0 : Nat) (w : World) (hA : Lds A w) (hs : s.size ≤ 140737488355328) (hn : n0 < 18446744073709551616) (hv : v0 < 18446744073709551616) :
    Calls Tryz.prog 13 #[epdV sc s n0 v0] w (ItmE (ep sc s n0 v0) w) := by
  have HA1 := Lib.hid ((hA.alloc (.cells #[.int .i64 sc, .string s, .int .u64 (n0 : Int), .int .u64 (v0 : Int)] 25)).alloc (.cells #[.int .i64 0, .int .u64 0, .slice none 0 0, .slice none 0 0] 30))
  have C1 := Lib.hid (written_any A sc s n0 v0 _ HA1.out hs hn hv)
  have HB0 : Hid (Below w.heap.size w ((w.alloc (.cells #[.int .i64 sc, .string s, .int .u64 (n0 : Int), .int .u64 (v0 : Int)] 25)).alloc (.cells #[.int .i64 0, .int .u64 0, .slice none 0 0, .slice none 0 0] 30))) := ((Below.refl _ _).alloc (Nat.le_refl _) _).alloc (le_alloc _ _) _
  generalize ep sc s n0 v0 = E at *
  clear hA hs hn hv
  unfold epdV at *
  go_enter Tryz.func13, Tryz.ntmps13
  go_wp2_with fail
  refine C1.out.mono ?_
  rintro e w1 ⟨hb, hcase⟩
  have HL1 := Lib.hid (HA1.out.below hb (Nat.le_refl _))
  have HB1 := Lib.hid (hb.mono (show w.heap.size + 2 ≤ _ by simp))
  have HZ1 : Hid (w.heap.size + 2 ≤ w1.heap.size) := by show _ ≤ _; have h := hb.size; simpa using h
  have HNE : Hid (¬ w.heap.size + 1 = w1.heap.size) := fun h => by have := HZ1.out; omega
  clear hb
  obtain ⟨hc, v, rfl, hr⟩ | ⟨hc, a, tx, ha, rfl⟩ := hcase
  · obtain ⟨k, m, D, nd, cd, AL, nl, cl, rfl⟩ := hr.form
    have hs2 : ((w.alloc (.cells #[.int .i64 sc, .string s, .int .u64 (n0 : Int), .int .u64 (v0 : Int)] 25)).alloc (.cells #[.int .i64 0, .int .u64 0, .slice none 0 0, .slice none 0 0] 30)).heap.size = w.heap.size + 2 := by simp
    rw [hs2] at hr
    have HR := Lib.hid (hr.grow ((Below.refl w1.heap.size w1).alloc (Nat.le_refl _) (.cells #[.int .i64 k, .int .u64 (m : Int), .slice D nd cd, .slice AL nl cl] 30)) (Nat.le_refl _))
    have HC := Lib.hid hc
    have CN := Lib.hid (fun W (hW : Lds A W) => number_nilB A W hW)
    clear hc hr hs2
    go_wp2_with fail
    have HA2 := Lib.hid (HL1.out.alloc (.cells #[.int .i64 k, .int .u64 (m : Int), .slice D nd cd, .slice AL nl cl] 30))
    have HB2 := Lib.hid (HB1.out.trans (((Below.refl w1.heap.size w1).alloc (Nat.le_refl _) (.cells #[.int .i64 k, .int .u64 (m : Int), .slice D nd cd, .slice AL nl cl] 30)).mono HZ1.out))
    have HLT : Hid (w1.heap.size < (w1.alloc (.cells #[.int .i64 k, .int .u64 (m : Int), .slice D nd cd, .slice AL nl cl] 30)).heap.size) := by show _ < _; simp
    obtain ⟨p0, p1, p2, p3⟩ := box_cells4 (Below.refl _ (w1.alloc (.cells #[.int .i64 k, .int .u64 (m : Int), .slice D nd cd, .slice AL nl cl] 30)))
    generalize w1.alloc (.cells #[.int .i64 k, .int .u64 (m : Int), .slice D nd cd, .slice AL nl cl] 30) = W1 at *
    have HD := Lib.hid (HA2.out.below (Below.drew_ (B := W1.heap.size)) (Nat.le_refl _))
    have HZ2 := Lib.hid (Nat.le_trans HZ1.out (Nat.le_of_lt HLT.out))
    go_region_held3 (fun W => W.cell? ⟨w1.heap.size, 0, none⟩ = some (.int .i64 k) ∧ W.cell? ⟨w1.heap.size, 1, none⟩ = some (.int .u64 (m : Int)) ∧ W.cell? ⟨w1.heap.size, 2, none⟩ = some (.slice D nd cd) ∧ W.cell? ⟨w1.heap.size, 3, none⟩ = some (.slice AL nl cl))
      (first | (with_reducible exact ⟨put4_cell_ x0 HNE.out, put4_cell_ x1 HNE.out, put4_cell_ x2 HNE.out, put4_cell_ x3 HNE.out⟩) | (with_reducible exact ⟨x0, x1, x2, x3⟩) | (exact ⟨p0, p1, p2, p3⟩) | fail)
      (first
        | (go_at_call 66; refine (CN.out _ HD.out).mono ?_; rintro e w2 ⟨rfl, hb2⟩; have hb2' : Below W1.heap.size W1 w2 := Below.drew_.trans hb2; have x0 := (hb2'.cell (p := ⟨w1.heap.size, 0, none⟩) HLT.out).trans p0; have x1 := (hb2'.cell (p := ⟨w1.heap.size, 1, none⟩) HLT.out).trans p1; have x2 := (hb2'.cell (p := ⟨w1.heap.size, 2, none⟩) HLT.out).trans p2; have x3 := (hb2'.cell (p := ⟨w1.heap.size, 3, none⟩) HLT.out).trans p3; have hb3 := HB2.out.trans (hb2'.mono HZ2.out); have BX := Lib.hid hb2'; obtain ⟨⟨z0, z1, z2, z3⟩, f0, f1, f2, f3⟩ := zero4 (g := w.heap.size + 1) (by simp) hb3; have B3 := Lib.hid hb3; clear hb2 hb2' hb3)
        | fail)
    go_wp2_with fail
    refine bodyPost_ret (v := .tuple #[.agg #[.int .i64 k, .int .u64 (m : Int), .slice D nd cd, .slice AL nl cl], .int .i64 0]) (by simp [results, Tryz.results13, go_sem, z0, z1, z2, z3]) rfl ⟨below_set4 (HB0.out.trans (B3.out.mono (Nat.le_add_right _ 2))) (Nat.le_succ _), .inl ⟨HC.out, _, rfl, ?_⟩⟩
    exact RdI.unmask (S := lows 0) ((HR.out.grow BX.out (Nat.le_refl _)).put4 (Nat.zero_le _) (Nat.lt_succ_self _) (Nat.le_of_eq size_put4.symm))
  · have HC := Lib.hid hc
    have CN := Lib.hid (fun W (hW : Lds A W) => number_ch A 1 (.iface 149 (.agg #[.string tx, snt a])) a W hW (.wrap 0 tx _ _ a (.leaf a ha)) (by decide))
    clear hc ha
    unfold zeroItem eflt snt at *
    go_wp2_with fail
    have HA2 := Lib.hid (HL1.out.alloc (.cells #[.int .i64 0, .int .u64 0, .slice none 0 0, .slice none 0 0] 30))
    have HB2 := Lib.hid (HB1.out.trans (((Below.refl w1.heap.size w1).alloc (Nat.le_refl _) (.cells #[.int .i64 0, .int .u64 0, .slice none 0 0, .slice none 0 0] 30)).mono HZ1.out))
    have HLT : Hid (w1.heap.size < (w1.alloc (.cells #[.int .i64 0, .int .u64 0, .slice none 0 0, .slice none 0 0] 30)).heap.size) := by show _ < _; simp
    obtain ⟨p0, p1, p2, p3⟩ := box_cells4 (Below.refl _ (w1.alloc (.cells #[.int .i64 0, .int .u64 0, .slice none 0 0, .slice none 0 0] 30)))
    generalize w1.alloc (.cells #[.int .i64 0, .int .u64 0, .slice none 0 0, .slice none 0 0] 30) = W1 at *
    have HD := Lib.hid (HA2.out.below (Below.drew_ (B := W1.heap.size)) (Nat.le_refl _))
    have HZ2 := Lib.hid (Nat.le_trans HZ1.out (Nat.le_of_lt HLT.out))
    go_region_held3 (fun W => W.cell? ⟨w1.heap.size, 0, none⟩ = some (.int .i64 0) ∧ W.cell? ⟨w1.heap.size, 1, none⟩ = some (.int .u64 0) ∧ W.cell? ⟨w1.heap.size, 2, none⟩ = some (.slice none 0 0) ∧ W.cell? ⟨w1.heap.size, 3, none⟩ = some (.slice none 0 0))
      (first | (with_reducible exact ⟨put4_cell_ x0 HNE.out, put4_cell_ x1 HNE.out, put4_cell_ x2 HNE.out, put4_cell_ x3 HNE.out⟩) | (with_reducible exact ⟨x0, x1, x2, x3⟩) | (exact ⟨p0, p1, p2, p3⟩) | fail)
      (first
        | (go_at_call 66; refine (CN.out _ HD.out).mono ?_; rintro e w2 ⟨rfl, hb2⟩; have hb2' : Below W1.heap.size W1 w2 := Below.drew_.trans hb2; have x0 := (hb2'.cell (p := ⟨w1.heap.size, 0, none⟩) HLT.out).trans p0; have x1 := (hb2'.cell (p := ⟨w1.heap.size, 1, none⟩) HLT.out).trans p1; have x2 := (hb2'.cell (p := ⟨w1.heap.size, 2, none⟩) HLT.out).trans p2; have x3 := (hb2'.cell (p := ⟨w1.heap.size, 3, none⟩) HLT.out).trans p3; have hb3 := HB2.out.trans (hb2'.mono HZ2.out); have BX := Lib.hid hb2'; obtain ⟨⟨z0, z1, z2, z3⟩, f0, f1, f2, f3⟩ := zero4 (g := w.heap.size + 1) (by simp) hb3; have B3 := Lib.hid hb3; clear hb2 hb2' hb3)
        | fail)
    go_wp2_with fail
    refine bodyPost_ret (v := .tuple #[zeroItem, .int .i64 40]) (by simp [results, Tryz.results13, go_sem, z0, z1, z2, z3, zeroItem]) rfl ⟨below_set4 (HB0.out.trans (B3.out.mono (Nat.le_add_right _ 2))) (Nat.le_succ _), .inr ⟨HC.out, rfl⟩⟩
end Go.Proofs.YtlecbblmaadpiaaGreatDoor
