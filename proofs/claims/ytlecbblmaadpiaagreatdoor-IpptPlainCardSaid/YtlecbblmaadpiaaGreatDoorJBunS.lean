/- What bytes.Equal returns. -/
import Derived.Test.YtlecbblmaadpiaaGreatDoorJBlkE
import Derived.Test.YtlecbblmaadpiaaGreatDoorJBlkF2
import Derived.Test.YtlecbblmaadpiaaGreatDoorJBunM
import Derived.Test.YtlecbblmaadpiaaGreatDoorJCrcS
import Derived.Test.YtlecbblmaadpiaaGreatDoorJEidE
import Derived.Test.YtlecbblmaadpiaaGreatDoorJEidI2
import Derived.Test.YtlecbblmaadpiaaGreatDoorJKDecL
import Derived.BigQuiet
import Derived.Deep.QuietTactic
import Derived.Deep.RegionHeld3
import Derived.Lib.IfaceEq
namespace Go.Proofs.YtlecbblmaadpiaaGreatDoor
open Go.RowKit
end Go.Proofs.YtlecbblmaadpiaaGreatDoor
/- What compare of layer 5 returns. -/
namespace Go.Proofs.YtlecbblmaadpiaaGreatDoor
open Go.RowKit
end Go.Proofs.YtlecbblmaadpiaaGreatDoor
/- What read of layer 5 returns. -/
namespace Go.Proofs.YtlecbblmaadpiaaGreatDoor
open Go.RowKit
end Go.Proofs.YtlecbblmaadpiaaGreatDoor
/- What Decode of layer 5 returns. -/
namespace Go.Proofs.YtlecbblmaadpiaaGreatDoor
open Go.RowKit
end Go.Proofs.YtlecbblmaadpiaaGreatDoor
/- Faults of layer 6, errors.Is over them, and numberOf. -/
namespace Go.Proofs.YtlecbblmaadpiaaGreatDoor
open Go.RowKit Go.Extern.Stop Go.Stop Go.Extern
def cauV (z : Int) : Value := .iface 179 (.int .i64 z)
def ufl (z : Int) (s : ByteArray) : Value := .iface 181 (.agg #[.string s, .iface 179 (.int .i64 z)])
theorem cTypeOf (v : Value) (w : World) : (Extern.ReflectliteType.typeOf #[.iface 179 v]).run Tryz.prog w = .ok (.iface 236 (.agg #[.pointer (some ⟨11, 179, none⟩)])) w := by kernel_rfl
theorem cComparable (w : World) : ((Extern.ReflectliteType.method fun t => do Extern.Rtype.noPackHeld "Comparable" t; (fun a => Value.bool a.comparable) <$> typeInfo t) #[.agg #[.pointer (some ⟨11, 179, none⟩)]]).run Tryz.prog w = .ok (.bool true) w := by kernel_rfl
theorem cComp : (Tryz.prog.info? 179).map (·.comparable) = some true := by kernel_rfl
theorem noIsC (v : Value) (xT : TypeId) (w : World) : (Instr.typeAssert (.iface 179 v) xT 238 true).run Tryz.prog w = .ok (.tuple #[.nilIface, .bool false]) w := run_typeAssert_lacksB Tryz.underlying238 (by kernel_rfl) (by kernel_rfl) v xT w
theorem noUnwrapC (v : Value) (xT : TypeId) (w : World) : (Instr.typeAssert (.iface 179 v) xT 241 true).run Tryz.prog w = .ok (.tuple #[.nilIface, .bool false]) w := run_typeAssert_lacksB Tryz.underlying241 (by kernel_rfl) (by kernel_rfl) v xT w
theorem noUnwrapsC (v : Value) (xT : TypeId) (w : World) : (Instr.typeAssert (.iface 179 v) xT 243 true).run Tryz.prog w = .ok (.tuple #[.nilIface, .bool false]) w := run_typeAssert_lacksB Tryz.underlying243 (by kernel_rfl) (by kernel_rfl) v xT w
theorem noIsU (v : Value) (xT : TypeId) (w : World) : (Instr.typeAssert (.iface 181 v) xT 238 true).run Tryz.prog w = .ok (.tuple #[.nilIface, .bool false]) w := run_typeAssert_lacksB Tryz.underlying238 (by kernel_rfl) (by kernel_rfl) v xT w
theorem hasUnwrapU (v : Value) (xT : TypeId) (w : World) : (Instr.typeAssert (.iface 181 v) xT 241 true).run Tryz.prog w = .ok (.tuple #[.iface 181 v, .bool true]) w := run_typeAssert_hasB Tryz.underlying241 (by kernel_rfl) v xT w
theorem methodUnwrapU (n : Nat) (v : Value) (w : World) : (Go.method (n + 8) 181 v "Unwrap").run Tryz.prog w = .ok (272, v) w := by kernel_rfl
set_option maxRecDepth 1000000 in
set_option maxHeartbeats 4000000 in
theorem isU_any (z k : Int) (s : ByteArray) (w : World) :
    Calls Tryz.prog 152 #[ufl z s, cauV k, .bool true] w fun e w' => e = .returned (.bool (z == k)) ∧ Below w.heap.size w w' := by
  have nE := noIsC
  have uE := noUnwrapC
  have vE := noUnwrapsC
  have nW := noIsU
  have uW := hasUnwrapU
  have mU := methodUnwrapU
  obtain ⟨R, hR⟩ : ∃ R, R = (z == k) := ⟨_, rfl⟩
  rw [← hR]
  have HR := Lib.hid hR
  clear hR
  unfold cauV
  go_enter Tryz.func152, Tryz.ntmps152
  go_wp2_with fail
  go_loopw [0] (fun E' wl => Hid (Below w.heap.size w wl) ∧ (E' = ufl z s ∨ E' = cauV z)) (fun E' _ => links 9 E')
  case atStart => exact ⟨Below.refl _ _, .inl rfl⟩
  case round =>
    obtain ⟨HB, rfl | rfl⟩ := hrel
    · unfold ufl at *
      have hty := run_eql_iface_types (P := Tryz.prog) 181 179 (.agg #[.string s, .iface 179 (.int .i64 z)]) (.int .i64 k) Tryz.underlying95 (by decide) wr
      have q1 := fun (W : World) (u : TypeId) (x : Value) => run_eql_iface_nil (P := Tryz.prog) (w := W) 95 (by kernel_rfl) u x
      go_wp2
      go_roundw
      case rel => exact ⟨HB.out.trans (((Below.refl _ _).alloc (Nat.le_refl _) _).mono HB.out.size), .inr rfl⟩
      case measure => exact Nat.zero_lt_one
    · unfold cauV at *
      have heq := Go.Lib.run_eql_iface_int (P := Tryz.prog) (k := .i64) wr z k Tryz.underlying95 cComp Tryz.underlying179
      have HE := Lib.hid HB.out
      cases R with
      | true =>
        rw [← HR.out] at heq
        go_wp2_with fail
        go_ret
        exact ⟨rfl, HE.out⟩
      | false =>
        rw [← HR.out] at heq
        go_wp2_with fail
        go_ret
        exact ⟨rfl, HE.out⟩
set_option maxRecDepth 1000000 in
set_option maxHeartbeats 4000000 in
theorem eisU_any (z k : Int) (s : ByteArray) (w : World) :
    Calls Tryz.prog 117 #[ufl z s, cauV k] w fun e w' => e = .returned (.bool (z == k)) ∧ Below w.heap.size w w' := by
  have h8 := @run_callFunc_extern Tryz.prog 151 _ Extern.ReflectliteType.typeOf Tryz.func151 (by kernel_rfl) (by kernel_rfl) (by kernel_rfl) (by kernel_rfl)
  have h32 := @run_callFunc_extern Tryz.prog 279 _ (Extern.ReflectliteType.method fun t => do Extern.Rtype.noPackHeld "Comparable" t; pure (.bool (← typeInfo t).comparable)) Tryz.func279 (by kernel_rfl) (by kernel_rfl) (by kernel_rfl) (by kernel_rfl)
  have tT := cTypeOf
  have cT := cComparable
  have mR := isMethodComparable
  have C1 := Lib.hid (isU_any z k s w)
  have q1 := fun (W : World) (u : TypeId) (x : Value) => run_eql_iface_nil (P := Tryz.prog) (w := W) 95 (by kernel_rfl) u x
  generalize (z == k) = R at *
  unfold cauV ufl at *
  go_enter Tryz.func117, Tryz.ntmps117
  go_wp2_with (first
    | (go_at_call 152; refine C1.out.mono ?_; rintro e w1 ⟨rfl, hb⟩; have HB := Lib.hid hb; clear hb)
    | go_in)
  go_ret
  exact ⟨rfl, HB.out⟩
def numL : List Int := [30, 31, 32, 50, 51, 61, 62]
def numZ (z : Int) : Int := if numL.contains z then z else 60
theorem numL_get (i : Nat) (hi : i < 7) : i = 0 ∧ numL.getD i 0 = 30 ∨ i = 1 ∧ numL.getD i 0 = 31 ∨ i = 2 ∧ numL.getD i 0 = 32 ∨ i = 3 ∧ numL.getD i 0 = 50 ∨ i = 4 ∧ numL.getD i 0 = 51 ∨ i = 5 ∧ numL.getD i 0 = 61 ∨ i = 6 ∧ numL.getD i 0 = 62 := by
  match i, hi with
  | 0, _ => simp [numL]
  | 1, _ => simp [numL]
  | 2, _ => simp [numL]
  | 3, _ => simp [numL]
  | 4, _ => simp [numL]
  | 5, _ => simp [numL]
  | 6, _ => simp [numL]
theorem numZ_hit {z : Int} (i : Nat) (hi : i < 7) (h : z = numL.getD i 0) : numZ z = z := by
  rcases numL_get i hi with ⟨-, e⟩ | ⟨-, e⟩ | ⟨-, e⟩ | ⟨-, e⟩ | ⟨-, e⟩ | ⟨-, e⟩ | ⟨-, e⟩ <;> (rw [e] at h; subst h; rfl)
theorem numZ_no {z : Int} (h : ∀ j, j < 7 → z ≠ numL.getD j 0) : numZ z = 60 := by
  unfold numZ
  rw [if_neg]
  intro hc
  have := h 0 (by decide)
  have := h 1 (by decide)
  have := h 2 (by decide)
  have := h 3 (by decide)
  have := h 4 (by decide)
  have := h 5 (by decide)
  have := h 6 (by decide)
  simp [numL] at *
  omega
set_option maxRecDepth 100000 in
set_option maxHeartbeats 4000000 in
theorem unumber_any (z : Int) (s : ByteArray) (w : World) :
    Calls Tryz.prog 97 #[ufl z s] w fun e w' => e = .returned (.int .i64 (numZ z)) ∧ Below w.heap.size w w' := by
  have C1 := Lib.hid (fun k W => eisU_any z k s W)
  have HB0 := Lib.hid ((Below.refl w.heap.size w).alloc (Nat.le_refl _) (.cells #[.int .i64 30, .int .i64 31, .int .i64 32, .int .i64 50, .int .i64 51, .int .i64 61, .int .i64 62] 31))
  have q1 := fun (W : World) (u : TypeId) (x : Value) => run_eql_iface_nil (P := Tryz.prog) (w := W) 95 (by kernel_rfl) u x
  obtain ⟨R, hR⟩ : ∃ R, R = numZ z := ⟨_, rfl⟩
  rw [← hR]
  have HR := Lib.hid hR
  clear hR
  unfold ufl cauV at *
  go_enter Tryz.func97, Tryz.ntmps97
  go_wp2_with fail
  have hcell : ∀ (W : World), Below (w.heap.size + 1) (w.alloc (.cells #[.int .i64 30, .int .i64 31, .int .i64 32, .int .i64 50, .int .i64 51, .int .i64 61, .int .i64 62] 31)) W → ∀ j, j < 7 → W.cell? ⟨w.heap.size, j, none⟩ = some (.int .i64 (numL.getD j 0)) := fun W hW j hj => by
    rw [hW.cell (Nat.lt_succ_self _), World.cell?_alloc_at _ _ _ _ rfl]
    rcases numL_get j hj with ⟨rfl, e⟩ | ⟨rfl, e⟩ | ⟨rfl, e⟩ | ⟨rfl, e⟩ | ⟨rfl, e⟩ | ⟨rfl, e⟩ | ⟨rfl, e⟩ <;> (rw [e]; rfl)
  have HC := Lib.hid hcell
  clear hcell
  go_loopw [9] (fun v wl => ∃ i : Nat, i ≤ 7 ∧ v = .int .i64 (i : Int) ∧ Hid (Below (w.heap.size + 1) (w.alloc (.cells #[.int .i64 30, .int .i64 31, .int .i64 32, .int .i64 50, .int .i64 51, .int .i64 61, .int .i64 62] 31)) wl) ∧ Hid (∀ j, j < i → z ≠ numL.getD j 0)) (fun v _ => 7 - (intOf v).toNat)
  case atStart => exact ⟨0, Nat.zero_le _, rfl, Below.refl _ _, fun j hj => absurd hj (Nat.not_lt_zero _)⟩
  case round =>
    obtain ⟨i, hi, rfl, HB, HN⟩ := hrel
    by_cases hlt : i < 7
    · have hx := HC.out _ HB.out i hlt
      have C2 := Lib.hid (C1.out (numL.getD i 0) wr)
      obtain ⟨y, hy⟩ : ∃ y, y = numL.getD i 0 := ⟨_, rfl⟩
      rw [← hy] at hx C2
      have HY := Lib.hid hy
      clear hy
      by_cases hzy : z = y
      · have e : (z == y) = true := by simpa using hzy
        rw [e] at C2
        have hz : R = y := by rw [HR.out, numZ_hit i hlt (hzy.trans HY.out)]; exact hzy
        clear hzy e HR
        subst hz
        go_wp2_with fail
        refine C2.out.mono ?_
        rintro e w2 ⟨rfl, hb⟩
        have HB2 := Lib.hid (HB0.out.trans ((HB.out.mono (Nat.le_succ _)).trans (hb.mono (Nat.le_trans (Nat.le_succ _) (by have := HB.out.size; simpa using this)))))
        clear hb
        go_wp2_with fail
        go_ret
        exact ⟨rfl, HB2.out⟩
      · have e : (z == y) = false := by simpa using hzy
        rw [e] at C2
        clear e
        have HZY := Lib.hid hzy
        clear hzy
        go_wp2_with fail
        refine C2.out.mono ?_
        rintro e w2 ⟨rfl, hb⟩
        have HB2 := Lib.hid (HB.out.trans (hb.mono (by have := HB.out.size; simpa using this)))
        clear hb
        go_wp2_with fail
        go_roundw
        case rel =>
          refine ⟨i + 1, by omega, by go_num, HB2.out, fun j hj => ?_⟩
          rcases Nat.lt_succ_iff_lt_or_eq.1 hj with h | rfl
          · exact HN.out j h
          · rw [← HY.out]; exact HZY.out
        case measure => simp [intOf]; omega
    · obtain rfl : i = 7 := by omega
      have hz : R = 60 := HR.out.trans (numZ_no HN.out)
      clear HR
      subst hz
      have HBE := Lib.hid (HB0.out.trans (HB.out.mono (Nat.le_succ _)))
      go_wp2_with fail
      go_ret
      exact ⟨rfl, HBE.out⟩
set_option maxRecDepth 100000 in
set_option maxHeartbeats 1000000 in
theorem unone_any (s : ByteArray) (w : World) : Calls Tryz.prog 142 #[.string s] w fun e w' => e = .returned (ufl 60 s) ∧ w = w' := by
  go_enter Tryz.func142, Tryz.ntmps142
  go_wp2_with fail
  go_ret
  exact ⟨rfl, rfl⟩
end Go.Proofs.YtlecbblmaadpiaaGreatDoor
/- What written and Item of layer 4 return. -/
namespace Go.Proofs.YtlecbblmaadpiaaGreatDoor
open Go.RowKit
def zeroItem : Value := .agg #[.int .i64 0, .int .u64 0, .slice none 0 0, .slice none 0 0]
def eflt (s : ByteArray) (v : Value) : Value := .iface 149 (.agg #[.string s, v])
def Writ (A : Snt) (E : Epd) (w : World) (e : Ending) (w' : World) : Prop := Below w.heap.size w w' ∧
  ((checkB E = true ∧ ∃ v, e = .returned (.tuple #[v, .nilIface]) ∧ RdI (mask (lows w.heap.size) w') w'.heap.size v (itemE E)) ∨
   (checkB E = false ∧ ∃ a s, OneOf A a ∧ e = .returned (.tuple #[zeroItem, eflt s (snt a)])))
theorem par_beh (e : Epd) : pars [.mk 0 e.scheme.toNat [] [], behI e] ≤ 1000000 := by
  unfold behI
  split
  · simp [pars, par]
  · split <;> simp [pars, par]
set_option maxRecDepth 100000 in
set_option maxHeartbeats 1000000 in
theorem written_any (A : Snt) (sc : Int) (s : ByteArray) (n v : Nat) (w : World) (hA : Lds A w) (hs : s.size ≤ 140737488355328) (hn : n < 18446744073709551616) (hv : v < 18446744073709551616) :
    Calls Tryz.prog 65 #[epdV sc s n v] w (Writ A (ep sc s n v) w) := by
  have hA2 := (hA.alloc (.cells #[.int .i64 sc, .string s, .int .u64 (n : Int), .int .u64 (v : Int)] 25)).alloc (.cells #[.int .i64 0, .int .u64 0, .slice none 0 0, .slice none 0 0] 30)
  have C1 := Lib.hid (echeck_any A sc s n v _ hA2 hs)
  have q1 := fun (W : World) (u : TypeId) (x : Value) => run_neq_iface_nil (P := Tryz.prog) (w := W) 95 (by kernel_rfl) u x
  clear hA hA2
  cases hc : checkB (ep sc s n v) with
  | false =>
    rw [hc] at C1
    have HW : Hid (∀ e w', Below w.heap.size w w' → (∃ a s, OneOf A a ∧ e = .returned (.tuple #[zeroItem, eflt s (snt a)])) → Writ A (ep sc s n v) w e w') := fun e w' h1 h2 => ⟨h1, .inr ⟨hc, h2⟩⟩
    clear hc
    unfold epdV at *
    go_enter Tryz.func65, Tryz.ntmps65
    go_wp2_with fail
    refine C1.out.mono ?_
    rintro e w1 ⟨hb, ⟨h, -⟩ | ⟨-, a, ha, rfl⟩⟩
    · cases h
    have hb2 := hb.mono (show w.heap.size + 2 ≤ _ by simp)
    obtain ⟨⟨z0, z1, z2, z3⟩, f0, f1, f2, f3⟩ := zero4 (g := w.heap.size + 1) (by simp) hb2
    have HB2 := Lib.hid hb2
    have HO := Lib.hid ha
    clear hb hb2 ha
    unfold snt
    go_wp2_with fail
    refine bodyPost_ret (v := .tuple #[zeroItem, eflt ⟨#[101, 110, 100, 112, 111, 105, 110, 116]⟩ (snt a)]) (by simp [results, Tryz.results65, go_sem, z0, z1, z2, z3, zeroItem, eflt, snt]) rfl (HW.out _ _ ?_ ⟨a, _, HO.out, rfl⟩)
    exact below_set4 ((((Below.refl _ _).alloc (Nat.le_refl _) _).alloc (le_alloc _ _) _).trans (HB2.out.mono (Nat.le_add_right _ 2))) (Nat.le_succ _)
  | true =>
    rw [hc] at C1
    have hpar := par_beh (ep sc s n v)
    have hit := itemE_beh (ep sc s n v)
    rw [show (ep sc s n v).scheme = sc from rfl] at hpar hit
    have CB := Lib.hid (fun (W : World) => ebehind_any sc s n v W hc hs hn hv)
    have HW : Hid (∀ e w', Below w.heap.size w w' → (∃ v0, e = .returned (.tuple #[v0, .nilIface]) ∧ RdI (mask (lows w.heap.size) w') w'.heap.size v0 (.mk 4 0 [] [.mk 0 sc.toNat [] [], behI (ep sc s n v)])) → Writ A (ep sc s n v) w e w') := fun e w' h1 h2 => ⟨h1, .inl ⟨hc, by rw [hit]; exact h2⟩⟩
    have h12 : sc = 1 ∨ sc = 2 := by
      by_cases h1 : sc = 1
      · exact .inl h1
      · exact .inr (check_ipn hc h1).1
    have hwr : IntKind.u64.wrap sc = sc := by rcases h12 with rfl | rfl <;> rfl
    have CU : Hid (∀ (W : World), Calls Tryz.prog 115 #[.int .u64 (IntKind.u64.wrap sc)] W (GivesL (w.heap.size + 2) (.mk 0 sc.toNat [] []) W)) := fun W => by
      rw [hwr]
      have h := cuintL_any (w.heap.size + 2) sc.toNat W (by rcases h12 with rfl | rfl <;> decide)
      rw [show ((sc.toNat : Nat) : Int) = sc by rcases h12 with rfl | rfl <;> rfl] at h
      exact h
    have HPAR := Lib.hid hpar
    generalize behI (ep sc s n v) = bi at *
    clear hc hit hpar h12 hwr
    unfold epdV at *
    generalize sc.toNat = scn at *
    go_enter Tryz.func65, Tryz.ntmps65
    go_wp2_with fail
    refine C1.out.mono ?_
    rintro e w1 ⟨hb, ⟨-, rfl⟩ | ⟨h, -⟩⟩
    case inr => cases h
    have g1 := box_cells4 ((((Below.refl (w.alloc (.cells #[.int .i64 sc, .string s, .int .u64 (n : Int), .int .u64 (v : Int)] 25)).heap.size _).alloc (Nat.le_refl _) _)).trans (hb.mono (le_alloc _ _)))
    have HB := Lib.hid (hb.mono (show w.heap.size + 2 ≤ _ by simp))
    have HZ1 : Hid (w.heap.size + 2 ≤ w1.heap.size) := by show _ ≤ _; have h := hb.size; simpa using h
    clear hb
    obtain ⟨g10, g11, g12, g13⟩ := g1
    have HNE : Hid (¬ w.heap.size + 1 = w.heap.size) := Nat.succ_ne_self _
    go_wp2_with fail
    have hlt0 : w.heap.size < w1.heap.size := Nat.lt_of_lt_of_le (by omega) HZ1.out
    go_region_held3 (fun W => W.cell? ⟨w.heap.size, 0, none⟩ = some (.int .i64 sc) ∧ W.cell? ⟨w.heap.size, 1, none⟩ = some (.string s) ∧ W.cell? ⟨w.heap.size, 2, none⟩ = some (.int .u64 (n : Int)) ∧ W.cell? ⟨w.heap.size, 3, none⟩ = some (.int .u64 (v : Int)))
      (first | (with_reducible exact ⟨x0, x1, x2, x3⟩) | (with_reducible exact ⟨put4_cell x0 HNE.out, put4_cell x1 HNE.out, put4_cell x2 HNE.out, put4_cell x3 HNE.out⟩) | (with_reducible exact ⟨u0, u1, u2, u3⟩) | (with_reducible exact ⟨(World.cell?_alloc_lt w3 _ ⟨w.heap.size, 0, none⟩ H3.out).trans u0, (World.cell?_alloc_lt w3 _ ⟨w.heap.size, 1, none⟩ H3.out).trans u1, (World.cell?_alloc_lt w3 _ ⟨w.heap.size, 2, none⟩ H3.out).trans u2, (World.cell?_alloc_lt w3 _ ⟨w.heap.size, 3, none⟩ H3.out).trans u3⟩) | (with_reducible exact ⟨t0, t1, t2, t3⟩) | (exact ⟨g10, g11, g12, g13⟩) | fail)
      (first
        | (go_at_call 115; refine (CU.out _).mono ?_; rintro e w2 ⟨v2, rfl, hv2, hb2⟩; have hb2' : Below w1.heap.size w1 w2 := Below.drew_.trans hb2; have t0 := (hb2'.cell (p := ⟨w.heap.size, 0, none⟩) hlt0).trans g10; have t1 := (hb2'.cell (p := ⟨w.heap.size, 1, none⟩) hlt0).trans g11; have t2 := (hb2'.cell (p := ⟨w.heap.size, 2, none⟩) hlt0).trans g12; have t3 := (hb2'.cell (p := ⟨w.heap.size, 3, none⟩) hlt0).trans g13; obtain ⟨k2, n2, A2, nd2, cd2, AL2, nl2, cl2, rfl⟩ := hv2.form; have V2 := Lib.hid hv2; have B2 := Lib.hid hb2'; clear hv2 hb2 hb2')
        | (go_at_call 116; refine (CB.out _).mono ?_; rintro e w3 ⟨v3, rfl, hv3, hb3⟩; have V3 := Lib.hid (V2.out.grow hb3 (Nat.le_refl _)); have W3 := Lib.hid (hv3.grow (Below.refl _ _) (Nat.le_trans HZ1.out B2.out.size)); have hb3' := B2.out.trans (hb3.mono B2.out.size); have u0 := (hb3'.cell (p := ⟨w.heap.size, 0, none⟩) hlt0).trans g10; have u1 := (hb3'.cell (p := ⟨w.heap.size, 1, none⟩) hlt0).trans g11; have u2 := (hb3'.cell (p := ⟨w.heap.size, 2, none⟩) hlt0).trans g12; have u3 := (hb3'.cell (p := ⟨w.heap.size, 3, none⟩) hlt0).trans g13; obtain ⟨k3, n3, A3, nd3, cd3, AL3, nl3, cl3, rfl⟩ := hv3.form; have B3 := Lib.hid hb3'; have H3 : Hid (w.heap.size < w3.heap.size) := Nat.lt_of_lt_of_le hlt0 hb3'.size; clear hv3 hb3 hb3')
        | (go_at_call 114; refine (carray_two (Nat.le_trans HZ1.out B3.out.size) V3.out W3.out HPAR.out).mono ?_; rintro e w4 ⟨v4, rfl, hv4, hb4⟩; have hb4' := (B3.out.alloc B3.out.size _).trans (hb4.mono (Nat.le_trans B3.out.size (le_alloc _ _))); have x0 := (hb4'.cell (p := ⟨w.heap.size, 0, none⟩) hlt0).trans g10; have x1 := (hb4'.cell (p := ⟨w.heap.size, 1, none⟩) hlt0).trans g11; have x2 := (hb4'.cell (p := ⟨w.heap.size, 2, none⟩) hlt0).trans g12; have x3 := (hb4'.cell (p := ⟨w.heap.size, 3, none⟩) hlt0).trans g13; obtain ⟨k4, n4, A4, nd4, cd4, AL4, nl4, cl4, rfl⟩ := hv4.form; have V4 := Lib.hid hv4; have hb5 := HB.out.trans (hb4'.mono HZ1.out); obtain ⟨⟨z0, z1, z2, z3⟩, f0, f1, f2, f3⟩ := zero4 (g := w.heap.size + 1) (by simp) hb5; have B4 := Lib.hid hb5; clear hv4 hb4 hb4' hb5)
        | fail)
    go_wp2_with fail
    refine bodyPost_ret (v := .tuple #[.agg #[.int .i64 k4, .int .u64 (n4 : Int), .slice A4 nd4 cd4, .slice AL4 nl4 cl4], .nilIface]) (by simp [results, Tryz.results65, go_sem, z0, z1, z2, z3]) rfl (HW.out _ _ ?_ ⟨_, rfl, ?_⟩)
    · exact below_set4 ((((Below.refl _ _).alloc (Nat.le_refl _) _).alloc (le_alloc _ _) _).trans (B4.out.mono (Nat.le_add_right _ 2))) (Nat.le_succ _)
    · exact V4.out.put4 (Nat.le_add_right _ 2) (Nat.lt_succ_self _) (Nat.le_of_eq size_put4.symm)
end Go.Proofs.YtlecbblmaadpiaaGreatDoor
/- What bytes.Equal returns; what same of layer 4 returns, of every two items. -/
namespace Go.Proofs.YtlecbblmaadpiaaGreatDoor
open Go.RowKit
end Go.Proofs.YtlecbblmaadpiaaGreatDoor
/- What taken of layer 4 returns: the one endpoint whose item this could be. -/
namespace Go.Proofs.YtlecbblmaadpiaaGreatDoor
open Go.RowKit
end Go.Proofs.YtlecbblmaadpiaaGreatDoor
/- What read and From of layer 4 return. -/
namespace Go.Proofs.YtlecbblmaadpiaaGreatDoor
open Go.RowKit
end Go.Proofs.YtlecbblmaadpiaaGreatDoor
/- Bundles and their blocks as values and in memory. (Made by gen/bun.py.) -/
namespace Go.Proofs.YtlecbblmaadpiaaGreatDoor
open Go.RowKit
/-! ### Blocks in memory -/
structure RdK (w : World) (B b o : Nat) (x : Blk) (A : Option Addr) (nd cd : Nat) : Prop where
  k0 : w.cell? ⟨b, o, none⟩ = some (.int .u64 (x.typ : Int))
  k1 : w.cell? ⟨b, o + 1, none⟩ = some (.int .u64 (x.num : Int))
  k2 : w.cell? ⟨b, o + 2, none⟩ = some (.int .u64 (x.flg : Int))
  k3 : w.cell? ⟨b, o + 3, none⟩ = some (.int .i64 x.crc)
  k4 : w.cell? ⟨b, o + 4, none⟩ = some (.slice A nd cd)
  bd : Bd x
  le : nd ≤ cd ∧ nd ≤ 140737488355328
  rd : Rd w B A nd x.dat
theorem RdK.below {w w' : World} {B b o nd cd : Nat} {x : Blk} {A : Option Addr} (h : RdK w B b o x A nd cd) (hb : Below B w w') (hB : b < B) : RdK w' B b o x A nd cd :=
  ⟨(hb.cell hB).trans h.k0, (hb.cell hB).trans h.k1, (hb.cell hB).trans h.k2, (hb.cell hB).trans h.k3, (hb.cell hB).trans h.k4, h.bd, h.le, h.rd.below hb⟩
theorem RdK.more {w : World} {B B' b o nd cd : Nat} {x : Blk} {A : Option Addr} (h : RdK w B b o x A nd cd) (hB : B ≤ B') : RdK w B' b o x A nd cd :=
  ⟨h.k0, h.k1, h.k2, h.k3, h.k4, h.bd, h.le, h.rd.more hB⟩
def RdKs (w : World) (B b : Nat) : Nat → List Blk → Prop
  | _, [] => True
  | o, x :: r => (∃ A nd cd, RdK w B b o x A nd cd) ∧ RdKs w B b (o + 5) r
theorem RdKs.below {w w' : World} {B b : Nat} (hb : Below B w w') (hB : b < B) : ∀ {l : List Blk} {o : Nat}, RdKs w B b o l → RdKs w' B b o l
  | [], _, _ => trivial
  | _ :: _, _, ⟨⟨A, nd, cd, h⟩, hr⟩ => ⟨⟨A, nd, cd, h.below hb hB⟩, RdKs.below hb hB hr⟩
theorem RdKs.more {w : World} {B B' b : Nat} (hB : B ≤ B') : ∀ {l : List Blk} {o : Nat}, RdKs w B b o l → RdKs w B' b o l
  | [], _, _ => trivial
  | _ :: _, _, ⟨⟨A, nd, cd, h⟩, hr⟩ => ⟨⟨A, nd, cd, h.more hB⟩, RdKs.more hB hr⟩
theorem RdKs.get {w : World} {B b : Nat} : ∀ {l : List Blk} {o : Nat}, RdKs w B b o l → ∀ i (hi : i < l.length), ∃ A nd cd, RdK w B b (o + i * 5) (l[i]'hi) A nd cd
  | x :: r, o, ⟨h, hr⟩, 0, _ => by simpa using h
  | x :: r, o, ⟨h, hr⟩, i + 1, hi => by
    have := RdKs.get hr i (Nat.lt_of_succ_lt_succ hi)
    rw [show o + (i + 1) * 5 = o + 5 + i * 5 by omega]
    simpa using this
theorem RdKs.of_get {w : World} {B b : Nat} : ∀ {l : List Blk} {o : Nat}, (∀ i (hi : i < l.length), ∃ A nd cd, RdK w B b (o + i * 5) (l[i]'hi) A nd cd) → RdKs w B b o l
  | [], _, _ => trivial
  | x :: r, o, h => ⟨by have := h 0 (by simp); rw [Nat.zero_mul, Nat.add_zero] at this; exact this, RdKs.of_get fun i hi => by
      have := h (i + 1) (by simpa using hi)
      rw [show o + (i + 1) * 5 = o + 5 + i * 5 by omega] at this
      simpa using this⟩
theorem RdKs.app {w : World} {B b : Nat} : ∀ {l m : List Blk} {o : Nat}, RdKs w B b o l → RdKs w B b (o + l.length * 5) m → RdKs w B b o (l ++ m)
  | [], m, o, _, h => by simpa using h
  | x :: r, m, o, ⟨h, hr⟩, hm => ⟨h, RdKs.app hr (by rw [show o + 5 + r.length * 5 = o + (x :: r).length * 5 by simp; omega]; exact hm)⟩
def RdL (w : World) (B : Nat) (A : Option Addr) (n : Nat) (l : List Blk) : Prop := l.length = n ∧ (0 < n → ∃ b o, A = some ⟨b, o, none⟩ ∧ b < B ∧ RdKs w B b o l) ∧ n ≤ 140737488355328
theorem RdL.below {w w' : World} {B n : Nat} {A : Option Addr} {l : List Blk} (h : RdL w B A n l) (hb : Below B w w') : RdL w' B A n l :=
  ⟨h.1, fun hn => by obtain ⟨b, o, e, h1, h2⟩ := h.2.1 hn; exact ⟨b, o, e, h1, h2.below hb h1⟩, h.2.2⟩
theorem RdL.more {w : World} {B B' n : Nat} {A : Option Addr} {l : List Blk} (h : RdL w B A n l) (hB : B ≤ B') : RdL w B' A n l :=
  ⟨h.1, fun hn => by obtain ⟨b, o, e, h1, h2⟩ := h.2.1 hn; exact ⟨b, o, e, Nat.lt_of_lt_of_le h1 hB, h2.more hB⟩, h.2.2⟩
theorem RdL.nil_ {w : World} {B : Nat} {A : Option Addr} : RdL w B A 0 [] := ⟨rfl, fun h => absurd h (Nat.lt_irrefl 0), Nat.zero_le _⟩
theorem RdL.take {w : World} {B n : Nat} {A : Option Addr} {l : List Blk} (h : RdL w B A n l) (i : Nat) (hi : i ≤ n) : RdL w B A i (l.take i) := by
  obtain ⟨h1, h2, h3⟩ := h
  refine ⟨by rw [List.length_take]; omega, fun h0 => ?_, by omega⟩
  obtain ⟨b, o, e, hb, hk⟩ := h2 (by omega)
  refine ⟨b, o, e, hb, RdKs.of_get fun j hj => ?_⟩
  have hjl : j < l.length := by rw [List.length_take] at hj; omega
  have := hk.get j hjl
  rw [List.getElem_take]
  exact this
/-! ### Bundles' heads: all but the blocks -/
structure BH where
  flg : Nat
  crc : Int
  dsc : Int
  dnm : ByteArray
  dn : Nat
  dv : Nat
  ssc : Int
  snm : ByteArray
  sn : Nat
  sv : Nat
  rsc : Int
  rnm : ByteArray
  rn : Nat
  rv : Nat
  tim : Nat
  seq : Nat
  lif : Nat
def BH.zero : BH := ⟨0, 0, 0, ⟨#[]⟩, 0, 0, 0, ⟨#[]⟩, 0, 0, 0, ⟨#[]⟩, 0, 0, 0, 0, 0⟩
def BH.dst (h : BH) : Epd := ep h.dsc h.dnm h.dn h.dv
def BH.src (h : BH) : Epd := ep h.ssc h.snm h.sn h.sv
def BH.rep (h : BH) : Epd := ep h.rsc h.rnm h.rn h.rv
def BH.bun (h : BH) (l : List Blk) : Bun := ⟨h.flg, h.crc, h.dst, h.src, h.rep, h.tim, h.seq, h.lif, l⟩
structure BH.Bd (h : BH) : Prop where
  flg : h.flg < 18446744073709551616
  dnm : h.dnm.size ≤ 140737488355328
  dn : h.dn < 18446744073709551616
  dv : h.dv < 18446744073709551616
  snm : h.snm.size ≤ 140737488355328
  sn : h.sn < 18446744073709551616
  sv : h.sv < 18446744073709551616
  rnm : h.rnm.size ≤ 140737488355328
  rn : h.rn < 18446744073709551616
  rv : h.rv < 18446744073709551616
  tim : h.tim < 18446744073709551616
  seq : h.seq < 18446744073709551616
  lif : h.lif < 18446744073709551616
def bunV (h : BH) (A : Option Addr) (n c : Nat) : Value := .agg #[.int .u64 (h.flg : Int), .int .i64 h.crc, .int .i64 h.dsc, .string h.dnm, .int .u64 (h.dn : Int), .int .u64 (h.dv : Int), .int .i64 h.ssc, .string h.snm, .int .u64 (h.sn : Int), .int .u64 (h.sv : Int), .int .i64 h.rsc, .string h.rnm, .int .u64 (h.rn : Int), .int .u64 (h.rv : Int), .int .u64 (h.tim : Int), .int .u64 (h.seq : Int), .int .u64 (h.lif : Int), .slice A n c]
theorem box18 {w w' : World} {c0 : Value} {c1 : Value} {c2 : Value} {c3 : Value} {c4 : Value} {c5 : Value} {c6 : Value} {c7 : Value} {c8 : Value} {c9 : Value} {c10 : Value} {c11 : Value} {c12 : Value} {c13 : Value} {c14 : Value} {c15 : Value} {c16 : Value} {c17 : Value} {t : TypeId} {g : Nat} (hg : g = w.heap.size) (h : Below (g + 1) (w.alloc (.cells #[c0, c1, c2, c3, c4, c5, c6, c7, c8, c9, c10, c11, c12, c13, c14, c15, c16, c17] t)) w') :
    w'.cell? ⟨g, 0, none⟩ = some c0 ∧ w'.cell? ⟨g, 1, none⟩ = some c1 ∧ w'.cell? ⟨g, 2, none⟩ = some c2 ∧ w'.cell? ⟨g, 3, none⟩ = some c3 ∧ w'.cell? ⟨g, 4, none⟩ = some c4 ∧ w'.cell? ⟨g, 5, none⟩ = some c5 ∧ w'.cell? ⟨g, 6, none⟩ = some c6 ∧ w'.cell? ⟨g, 7, none⟩ = some c7 ∧ w'.cell? ⟨g, 8, none⟩ = some c8 ∧ w'.cell? ⟨g, 9, none⟩ = some c9 ∧ w'.cell? ⟨g, 10, none⟩ = some c10 ∧ w'.cell? ⟨g, 11, none⟩ = some c11 ∧ w'.cell? ⟨g, 12, none⟩ = some c12 ∧ w'.cell? ⟨g, 13, none⟩ = some c13 ∧ w'.cell? ⟨g, 14, none⟩ = some c14 ∧ w'.cell? ⟨g, 15, none⟩ = some c15 ∧ w'.cell? ⟨g, 16, none⟩ = some c16 ∧ w'.cell? ⟨g, 17, none⟩ = some c17 := by
  subst hg
  refine ⟨?_, ?_, ?_, ?_, ?_, ?_, ?_, ?_, ?_, ?_, ?_, ?_, ?_, ?_, ?_, ?_, ?_, ?_⟩ <;> (rw [h.cell (Nat.lt_succ_self _), World.cell?_alloc_at _ _ _ _ rfl]; rfl)
/-! ### The world -/
structure Wd (S : Snt) (w : World) : Prop where
  lds : Lds S w
  laid : LaidE w
theorem Wd.below {S : Snt} {w w' : World} {B : Nat} (h : Wd S w) (hb : Below B w w') (hB : w.heap.size ≤ B) : Wd S w' :=
  ⟨h.lds.below hb hB, h.laid.below hb (Nat.lt_of_lt_of_le h.laid.lt hB)⟩
theorem Wd.alloc {S : Snt} {w : World} (h : Wd S w) (o : Obj) : Wd S (w.alloc o) := h.below ((Below.refl _ _).alloc (Nat.le_refl _) o) (Nat.le_refl _)
theorem Below.push {B : Nat} {W0 w1 w2 : World} (h : Below B W0 w1) (hB : B ≤ W0.heap.size) (h2 : Below w1.heap.size w1 w2) : Below B W0 w2 :=
  h.trans (h2.mono (Nat.le_trans hB h.size))
def WhyU (z : Int) (w : World) (e : Ending) (w' : World) : Prop := Below w.heap.size w w' ∧ ((z = 0 ∧ e = .returned .nilIface) ∨ (z ≠ 0 ∧ ∃ s, e = .returned (ufl z s)))
end Go.Proofs.YtlecbblmaadpiaaGreatDoor
/- What taken and read and Decode of layer 5 return: data in no block that was there. -/
namespace Go.Proofs.YtlecbblmaadpiaaGreatDoor
open Go.RowKit
end Go.Proofs.YtlecbblmaadpiaaGreatDoor
/- What Item of layer 4 returns, in memory of its own. -/
namespace Go.Proofs.YtlecbblmaadpiaaGreatDoor
open Go.RowKit
def ItmL (E : Epd) (w : World) (e : Ending) (w' : World) : Prop := Below w.heap.size w w' ∧
  ((checkB E = true ∧ ∃ v, e = .returned (.tuple #[v, .int .i64 0]) ∧ RdI (mask (lows w.heap.size) w') w'.heap.size v (itemE E)) ∨
   (checkB E = false ∧ e = .returned (.tuple #[zeroItem, .int .i64 40])))
set_option maxRecDepth 100000 in
set_option maxHeartbeats 1000000 in
theorem itemL_any (A : Snt) (sc : Int) (s : ByteArray) (n0 v0 : Nat) (w : World) (hA : Lds A w) (hs : s.size ≤ 140737488355328) (hn : n0 < 18446744073709551616) (hv : v0 < 18446744073709551616) :
    Calls Tryz.prog 13 #[epdV sc s n0 v0] w (ItmL (ep sc s n0 v0) w) := by
  have HA1 := Lib.hid ((hA.alloc (.cells #[.int .i64 sc, .string s, .int .u64 (n0 : Int), .int .u64 (v0 : Int)] 25)).alloc (.cells #[.int .i64 0, .int .u64 0, .slice none 0 0, .slice none 0 0] 30))
  have C1 := Lib.hid (written_any A sc s n0 v0 _ HA1.out hs hn hv)
  have HB0 : Hid (Below w.heap.size w ((w.alloc (.cells #[.int .i64 sc, .string s, .int .u64 (n0 : Int), .int .u64 (v0 : Int)] 25)).alloc (.cells #[.int .i64 0, .int .u64 0, .slice none 0 0, .slice none 0 0] 30))) := ((Below.refl _ _).alloc (Nat.le_refl _) _).alloc (le_alloc _ _) _
  generalize ep sc s n0 v0 = E at *
  clear hA hs hn hv
  unfold epdV at *
  go_enter Tryz.func13, Tryz.ntmps13
  go_wp2_with fail
  refine C1.out.mono ?_
  rintro e w1 ⟨hb, hcase⟩
  have HL1 := Lib.hid (HA1.out.below hb (Nat.le_refl _))
  have HB1 := Lib.hid (hb.mono (show w.heap.size + 2 ≤ _ by simp))
  have HZ1 : Hid (w.heap.size + 2 ≤ w1.heap.size) := by show _ ≤ _; have h := hb.size; simpa using h
  have HNE : Hid (¬ w.heap.size + 1 = w1.heap.size) := fun h => by have := HZ1.out; omega
  clear hb
  obtain ⟨hc, v, rfl, hr⟩ | ⟨hc, a, tx, ha, rfl⟩ := hcase
  · obtain ⟨k, m, D, nd, cd, AL, nl, cl, rfl⟩ := hr.form
    have hs2 : ((w.alloc (.cells #[.int .i64 sc, .string s, .int .u64 (n0 : Int), .int .u64 (v0 : Int)] 25)).alloc (.cells #[.int .i64 0, .int .u64 0, .slice none 0 0, .slice none 0 0] 30)).heap.size = w.heap.size + 2 := by simp
    rw [hs2] at hr
    have HR := Lib.hid (hr.grow ((Below.refl w1.heap.size w1).alloc (Nat.le_refl _) (.cells #[.int .i64 k, .int .u64 (m : Int), .slice D nd cd, .slice AL nl cl] 30)) (Nat.le_refl _))
    have HC := Lib.hid hc
    have CN := Lib.hid (fun W (hW : Lds A W) => number_nilB A W hW)
    clear hc hr hs2
    go_wp2_with fail
    have HA2 := Lib.hid (HL1.out.alloc (.cells #[.int .i64 k, .int .u64 (m : Int), .slice D nd cd, .slice AL nl cl] 30))
    have HB2 := Lib.hid (HB1.out.trans (((Below.refl w1.heap.size w1).alloc (Nat.le_refl _) (.cells #[.int .i64 k, .int .u64 (m : Int), .slice D nd cd, .slice AL nl cl] 30)).mono HZ1.out))
    have HLT : Hid (w1.heap.size < (w1.alloc (.cells #[.int .i64 k, .int .u64 (m : Int), .slice D nd cd, .slice AL nl cl] 30)).heap.size) := by show _ < _; simp
    obtain ⟨p0, p1, p2, p3⟩ := box_cells4 (Below.refl _ (w1.alloc (.cells #[.int .i64 k, .int .u64 (m : Int), .slice D nd cd, .slice AL nl cl] 30)))
    generalize w1.alloc (.cells #[.int .i64 k, .int .u64 (m : Int), .slice D nd cd, .slice AL nl cl] 30) = W1 at *
    have HD := Lib.hid (HA2.out.below (Below.drew_ (B := W1.heap.size)) (Nat.le_refl _))
    have HZ2 := Lib.hid (Nat.le_trans HZ1.out (Nat.le_of_lt HLT.out))
    go_region_held3 (fun W => W.cell? ⟨w1.heap.size, 0, none⟩ = some (.int .i64 k) ∧ W.cell? ⟨w1.heap.size, 1, none⟩ = some (.int .u64 (m : Int)) ∧ W.cell? ⟨w1.heap.size, 2, none⟩ = some (.slice D nd cd) ∧ W.cell? ⟨w1.heap.size, 3, none⟩ = some (.slice AL nl cl))
      (first | (with_reducible exact ⟨put4_cell_ x0 HNE.out, put4_cell_ x1 HNE.out, put4_cell_ x2 HNE.out, put4_cell_ x3 HNE.out⟩) | (with_reducible exact ⟨x0, x1, x2, x3⟩) | (exact ⟨p0, p1, p2, p3⟩) | fail)
      (first
        | (go_at_call 66; refine (CN.out _ HD.out).mono ?_; rintro e w2 ⟨rfl, hb2⟩; have hb2' : Below W1.heap.size W1 w2 := Below.drew_.trans hb2; have x0 := (hb2'.cell (p := ⟨w1.heap.size, 0, none⟩) HLT.out).trans p0; have x1 := (hb2'.cell (p := ⟨w1.heap.size, 1, none⟩) HLT.out).trans p1; have x2 := (hb2'.cell (p := ⟨w1.heap.size, 2, none⟩) HLT.out).trans p2; have x3 := (hb2'.cell (p := ⟨w1.heap.size, 3, none⟩) HLT.out).trans p3; have hb3 := HB2.out.trans (hb2'.mono HZ2.out); have BX := Lib.hid hb2'; obtain ⟨⟨z0, z1, z2, z3⟩, f0, f1, f2, f3⟩ := zero4 (g := w.heap.size + 1) (by simp) hb3; have B3 := Lib.hid hb3; clear hb2 hb2' hb3)
        | fail)
    go_wp2_with fail
    refine bodyPost_ret (v := .tuple #[.agg #[.int .i64 k, .int .u64 (m : Int), .slice D nd cd, .slice AL nl cl], .int .i64 0]) (by simp [results, Tryz.results13, go_sem, z0, z1, z2, z3]) rfl ⟨below_set4 (HB0.out.trans (B3.out.mono (Nat.le_add_right _ 2))) (Nat.le_succ _), .inl ⟨HC.out, _, rfl, ?_⟩⟩
    exact (HR.out.grow BX.out (Nat.le_refl _)).put4 (Nat.le_add_right _ 2) (Nat.lt_succ_self _) (Nat.le_of_eq size_put4.symm)
  · have HC := Lib.hid hc
    have CN := Lib.hid (fun W (hW : Lds A W) => number_ch A 1 (.iface 149 (.agg #[.string tx, snt a])) a W hW (.wrap 0 tx _ _ a (.leaf a ha)) (by decide))
    clear hc ha
    unfold zeroItem eflt snt at *
    go_wp2_with fail
    have HA2 := Lib.hid (HL1.out.alloc (.cells #[.int .i64 0, .int .u64 0, .slice none 0 0, .slice none 0 0] 30))
    have HB2 := Lib.hid (HB1.out.trans (((Below.refl w1.heap.size w1).alloc (Nat.le_refl _) (.cells #[.int .i64 0, .int .u64 0, .slice none 0 0, .slice none 0 0] 30)).mono HZ1.out))
    have HLT : Hid (w1.heap.size < (w1.alloc (.cells #[.int .i64 0, .int .u64 0, .slice none 0 0, .slice none 0 0] 30)).heap.size) := by show _ < _; simp
    obtain ⟨p0, p1, p2, p3⟩ := box_cells4 (Below.refl _ (w1.alloc (.cells #[.int .i64 0, .int .u64 0, .slice none 0 0, .slice none 0 0] 30)))
    generalize w1.alloc (.cells #[.int .i64 0, .int .u64 0, .slice none 0 0, .slice none 0 0] 30) = W1 at *
    have HD := Lib.hid (HA2.out.below (Below.drew_ (B := W1.heap.size)) (Nat.le_refl _))
    have HZ2 := Lib.hid (Nat.le_trans HZ1.out (Nat.le_of_lt HLT.out))
    go_region_held3 (fun W => W.cell? ⟨w1.heap.size, 0, none⟩ = some (.int .i64 0) ∧ W.cell? ⟨w1.heap.size, 1, none⟩ = some (.int .u64 0) ∧ W.cell? ⟨w1.heap.size, 2, none⟩ = some (.slice none 0 0) ∧ W.cell? ⟨w1.heap.size, 3, none⟩ = some (.slice none 0 0))
      (first | (with_reducible exact ⟨put4_cell_ x0 HNE.out, put4_cell_ x1 HNE.out, put4_cell_ x2 HNE.out, put4_cell_ x3 HNE.out⟩) | (with_reducible exact ⟨x0, x1, x2, x3⟩) | (exact ⟨p0, p1, p2, p3⟩) | fail)
      (first
        | (go_at_call 66; refine (CN.out _ HD.out).mono ?_; rintro e w2 ⟨rfl, hb2⟩; have hb2' : Below W1.heap.size W1 w2 := Below.drew_.trans hb2; have x0 := (hb2'.cell (p := ⟨w1.heap.size, 0, none⟩) HLT.out).trans p0; have x1 := (hb2'.cell (p := ⟨w1.heap.size, 1, none⟩) HLT.out).trans p1; have x2 := (hb2'.cell (p := ⟨w1.heap.size, 2, none⟩) HLT.out).trans p2; have x3 := (hb2'.cell (p := ⟨w1.heap.size, 3, none⟩) HLT.out).trans p3; have hb3 := HB2.out.trans (hb2'.mono HZ2.out); have BX := Lib.hid hb2'; obtain ⟨⟨z0, z1, z2, z3⟩, f0, f1, f2, f3⟩ := zero4 (g := w.heap.size + 1) (by simp) hb3; have B3 := Lib.hid hb3; clear hb2 hb2' hb3)
        | fail)
    go_wp2_with fail
    refine bodyPost_ret (v := .tuple #[zeroItem, .int .i64 40]) (by simp [results, Tryz.results13, go_sem, z0, z1, z2, z3, zeroItem]) rfl ⟨below_set4 (HB0.out.trans (B3.out.mono (Nat.le_add_right _ 2))) (Nat.le_succ _), .inr ⟨HC.out, rfl⟩⟩
end Go.Proofs.YtlecbblmaadpiaaGreatDoor
