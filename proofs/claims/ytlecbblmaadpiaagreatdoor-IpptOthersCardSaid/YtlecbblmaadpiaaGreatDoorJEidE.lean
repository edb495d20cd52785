/- What the checks of layer 4 return: isName, checkDtn, checkIpn, check, Check, None; the sentinels that stand in the package's variables. -/
import Derived.Test.YtlecbblmaadpiaaGreatDoorJEidL2
import Derived.LaidEql
import Derived.Stop.Asserts
import Derived.Stop.IfaceNil
import Derived.RowKitTokens
import Derived.Deep.RegionHeld3
namespace Go.Proofs.YtlecbblmaadpiaaGreatDoor
open Go.RowKit
structure Snt where
  s : Addr
  n : Addr
  u : Addr
  f : Addr
def OneOf (A : Snt) (a : Addr) : Prop := a = A.s ∨ a = A.n ∨ a = A.u ∨ a = A.f
def snt (a : Addr) : Value := .iface 279 (.pointer (some a))
structure Lds (A : Snt) (w : World) : Prop where
  cs : w.cell? ⟨0, 0, none⟩ = some (snt A.s)
  cn : w.cell? ⟨1, 0, none⟩ = some (snt A.n)
  cu : w.cell? ⟨2, 0, none⟩ = some (snt A.u)
  cf : w.cell? ⟨3, 0, none⟩ = some (snt A.f)
  row : ∀ a, OneOf A a → ∃ c t, w.heap[a.block]? = some (.cells c t (0, 0))
  ne : A.s ≠ A.n ∧ A.s ≠ A.u ∧ A.s ≠ A.f ∧ A.n ≠ A.u ∧ A.n ≠ A.f ∧ A.u ≠ A.f
theorem Lds.below {A : Snt} {w w' : World} {B : Nat} (h : Lds A w) (hb : Below B w w') (hB : w.heap.size ≤ B) : Lds A w' := by
  have k : ∀ {p : Addr} {v : Value}, w.cell? p = some v → w'.cell? p = some v := fun hc => (hb.cell (Nat.lt_of_lt_of_le (World.block_lt_of_cell? w _ hc) hB)).trans hc
  refine ⟨k h.cs, k h.cn, k h.cu, k h.cf, ?_, h.ne⟩
  · intro a ha
    obtain ⟨c, t, hc⟩ := h.row a ha
    have hl : a.block < w.heap.size := by
      rcases Nat.lt_or_ge a.block w.heap.size with h1 | h1
      · exact h1
      · rw [Array.getElem?_eq_none h1] at hc; cases hc
    exact ⟨c, t, (hb.block a.block (Nat.lt_of_lt_of_le hl hB)).trans hc⟩
theorem Lds.alloc {A : Snt} {w : World} (h : Lds A w) (o : Obj) : Lds A (w.alloc o) := h.below ((Below.refl _ _).alloc (Nat.le_refl _) o) (Nat.le_refl _)
theorem drewN_below {B : Nat} {w : World} (m : Nat) : Below B w (w.drewN m) := ⟨rfl, rfl, rfl, Nat.le_refl _, fun _ _ => rfl⟩
set_option maxRecDepth 100000 in
set_option maxHeartbeats 1000000 in
theorem or_any (w : World) :
    Calls Tryz.prog 191 #[.func (.func 190) #[] #[], .string ⟨#[47]⟩] w fun e w' => ∃ b1 b2, e = .returned (lsFn b1 b2) ∧ LsAt2 b1 b2 w' ∧ Below w.heap.size w w' := by
  go_enter Tryz.func191, Tryz.ntmps191
  go_wp2_with fail
  refine bodyPost_ret (v := lsFn w.heap.size (w.heap.size + 1)) (by simp [results, Tryz.results191, go_sem, lsFn]) rfl ⟨w.heap.size, w.heap.size + 1, rfl, ⟨?_, ?_⟩, ?_⟩
  · rw [World.cell?_alloc_lt _ _ _ (by simp)]; rw [World.cell?_alloc_at _ _ _ _ rfl]; rfl
  · rw [World.cell?_alloc_at _ _ _ _ (by simp)]; rfl
  · exact ((Below.refl _ _).alloc (Nat.le_refl _) _).alloc (by simp) _
set_option maxRecDepth 100000 in
set_option maxHeartbeats 1000000 in
theorem isname_any (s : ByteArray) (w : World) (hs : s.size ≤ 140737488355328) :
    Calls Tryz.prog 153 #[.string s] w fun e w' => e = .returned (.bool (nameB s.data.toList)) ∧ Below w.heap.size w w' := by
  have hsz : s.size = s.data.toList.length := Lib.size_eq s
  rw [← nameC_eq]
  obtain ⟨R, hR⟩ : ∃ R, R = nameC s.data.toList := ⟨_, rfl⟩
  rw [← hR]
  unfold nameC at hR
  by_cases h64 : 64 < s.size
  · have hr : R = false := by rw [hR, decide_eq_false (by omega)]; rfl
    subst hr
    clear hR hsz
    have h64i : decide ((64 : Int) < (s.size : Int)) = true := by simp; omega
    go_enter Tryz.func153, Tryz.ntmps153
    go_wp2_with fail
    go_ret
    exact ⟨rfl, Below.refl _ _⟩
  have h65 : s.size ≤ 64 := by omega
  rw [decide_eq_true (by omega), Bool.true_and] at hR
  have C1 := Lib.hid (Tryz.strings_CutPrefix s ⟨#[47, 47]⟩ w)
  have e47 : (⟨#[47, 47]⟩ : ByteArray).data.toList = [47, 47] := rfl
  rw [e47] at C1
  by_cases hp : Lib.hasPrefix s.data.toList [47, 47] = true
  · rw [hp, Bool.true_and] at hR
    have et : Lib.trimPrefix s.data.toList [47, 47] = s.data.toList.drop 2 := by unfold Lib.trimPrefix; rw [if_pos hp]; rfl
    rw [hp, et] at C1
    have hrl : (s.data.toList.drop 2).length ≤ 64 := by rw [List.length_drop]; omega
    generalize s.data.toList.drop 2 = r at *
    have C2 := Lib.hid (fun W => cut_any ⟨r.toArray⟩ 47 W (by rw [Lib.size_eq]; simp; omega))
    unfold cutV at C2
    rw [show (⟨r.toArray⟩ : ByteArray).data.toList = r by simp] at C2
    have hal := ahead_le 47 r
    have hbl : (behind 47 r).length ≤ 64 := by unfold behind; rw [List.length_drop]; omega
    by_cases hh : hasB 47 r = true
    · rw [hh, Bool.true_and] at hR
      rw [hh] at C2
      generalize ahead 47 r = u at *
      generalize behind 47 r = t at *
      have hus : (⟨u.toArray⟩ : ByteArray).data.toList = u := by simp
      have hts : (⟨t.toArray⟩ : ByteArray).data.toList = t := by simp
      have C3 := Lib.hid (fun W => only_letter ⟨u.toArray⟩ W (by rw [Lib.size_eq, hus]; omega))
      have C5 := Lib.hid (fun b1 b2 W h => only_ls ⟨t.toArray⟩ b1 b2 W h (by rw [Lib.size_eq, hts]; omega))
      rw [hus] at C3
      rw [hts] at C5
      clear hp et hrl hal hbl hh hsz hus hts
      have hue : (⟨u.toArray⟩ : ByteArray).toList.isEmpty = u.isEmpty := by rw [Lib.toList_data]
      generalize (⟨u.toArray⟩ : ByteArray) = us at *
      generalize (⟨t.toArray⟩ : ByteArray) = ts at *
      cases hui : u.isEmpty with
      | true =>
        rw [hui] at hue hR
        have hr : R = false := hR
        subst hr
        clear hR hui
        go_enter Tryz.func153, Tryz.ntmps153
        go_wp2_with (first
          | (go_at_call 155; refine C1.out.mono ?_; rintro e w' ⟨rfl, rfl⟩)
          | (go_at_call 72; refine (C2.out _).mono ?_; rintro e w' ⟨rfl, m, rfl⟩)
          | fail)
        go_ret
        exact ⟨rfl, drewN_below m⟩
      | false =>
        rw [hui] at hue hR
        have hR2 : R = (u.all letterB && t.all lsB) := hR
        clear hR hui
        generalize t.all lsB = T at *
        cases hul : u.all letterB with
        | false =>
          rw [hul] at C3 hR2
          have hr : R = false := hR2
          subst hr
          clear hR2 hul
          go_enter Tryz.func153, Tryz.ntmps153
          go_wp2_with (first
            | (go_at_call 155; refine C1.out.mono ?_; rintro e w' ⟨rfl, rfl⟩)
            | (go_at_call 72; refine (C2.out _).mono ?_; rintro e w' ⟨rfl, m, rfl⟩)
            | (go_at_call 189; refine (C3.out _).mono ?_; rintro e w' ⟨rfl, rfl⟩)
            | fail)
          go_ret
          exact ⟨rfl, drewN_below m⟩
        | true =>
          rw [hul] at C3 hR2
          have hr : R = T := hR2
          subst hr
          clear hR2 hul
          go_enter Tryz.func153, Tryz.ntmps153
          go_wp2_with (first
            | (go_at_call 155; refine C1.out.mono ?_; rintro e w' ⟨rfl, rfl⟩)
            | (go_at_call 72; refine (C2.out _).mono ?_; rintro e w' ⟨rfl, m, rfl⟩)
            | fail)
          refine (C3.out _).mono ?_
          rintro e w1 ⟨rfl, rfl⟩
          go_wp2_with fail
          refine (or_any _).mono ?_
          rintro e w2 ⟨b1, b2, rfl, hat, hb⟩
          have C6 := Lib.hid (C5.out b1 b2 w2 hat)
          have HB := Lib.hid hb
          clear hat hb C5
          unfold lsFn at *
          go_wp2_with fail
          refine C6.out.mono ?_
          rintro e w3 ⟨rfl, rfl⟩
          go_wp2_with fail
          go_ret
          exact ⟨rfl, (drewN_below m).trans HB.out⟩
    · rw [Bool.not_eq_true] at hh
      rw [hh, Bool.false_and] at hR
      rw [hh] at C2
      subst hR
      generalize (⟨(ahead 47 r).toArray⟩ : ByteArray) = us at *
      generalize (⟨(behind 47 r).toArray⟩ : ByteArray) = ts at *
      clear hh hal hbl hrl hsz
      go_enter Tryz.func153, Tryz.ntmps153
      go_wp2_with (first
        | (go_at_call 155; refine C1.out.mono ?_; rintro e w' ⟨rfl, rfl⟩)
        | (go_at_call 72; refine (C2.out _).mono ?_; rintro e w' ⟨rfl, m, rfl⟩)
        | fail)
      go_ret
      exact ⟨rfl, drewN_below m⟩
  · rw [Bool.not_eq_true] at hp
    rw [hp, Bool.false_and] at hR
    rw [hp] at C1
    subst hR
    have hrs : (⟨(Lib.trimPrefix s.data.toList [47, 47]).toArray⟩ : ByteArray).size ≤ 64 := by
      unfold Lib.trimPrefix
      rw [hp, Lib.size_eq]
      simp
      omega
    generalize (⟨(Lib.trimPrefix s.data.toList [47, 47]).toArray⟩ : ByteArray) = r at *
    have C2 := Lib.hid (fun W => cut_any r 47 W (by omega))
    unfold cutV at C2
    generalize (⟨(ahead 47 r.data.toList).toArray⟩ : ByteArray) = us at *
    generalize (⟨(behind 47 r.data.toList).toArray⟩ : ByteArray) = ts at *
    generalize hasB 47 r.data.toList = H at *
    clear hp hsz
    go_enter Tryz.func153, Tryz.ntmps153
    go_wp2_with (first
      | (go_at_call 155; refine C1.out.mono ?_; rintro e w' ⟨rfl, rfl⟩)
      | (go_at_call 72; refine (C2.out _).mono ?_; rintro e w' ⟨rfl, m, rfl⟩)
      | fail)
    go_ret
    exact ⟨rfl, drewN_below m⟩
def epdV (sc : Int) (s : ByteArray) (n v : Nat) : Value := .agg #[.int .i64 sc, .string s, .int .u64 (n : Int), .int .u64 (v : Int)]
def ep (sc : Int) (s : ByteArray) (n v : Nat) : Epd := ⟨sc, s.data.toList, n, v⟩
def Why (A : Snt) (b : Bool) (w : World) (e : Ending) (w' : World) : Prop := Below w.heap.size w w' ∧ ((b = true ∧ e = .returned .nilIface) ∨ (b = false ∧ ∃ a, OneOf A a ∧ e = .returned (snt a)))
theorem str_empty (s : ByteArray) : s.toList.isEmpty = s.data.toList.isEmpty := by rw [Lib.toList_data]
set_option maxRecDepth 100000 in
set_option maxHeartbeats 1000000 in
theorem checkdtn_any (A : Snt) (s : ByteArray) (n v : Nat) (w : World) (hA : Lds A w) (hs : s.size ≤ 140737488355328) :
    Calls Tryz.prog 118 #[epdV 1 s n v] w (Why A (checkB (ep 1 s n v)) w) := by
  obtain ⟨R, hR⟩ : ∃ R, R = checkB (ep 1 s n v) := ⟨_, rfl⟩
  rw [← hR]
  have hR2 : R = ((n == 0 && v == 0) && (s.data.toList.isEmpty || nameB s.data.toList)) := by rw [hR]; unfold checkB; rw [if_pos (show (ep 1 s n v).scheme = 1 from rfl)]; rfl
  clear hR
  have C1 := Lib.hid (fun W => isname_any s W hs)
  have hse := str_empty s
  unfold epdV
  have HA := Lib.hid hA
  have gu : (w.alloc (.cells #[.int .i64 1, .string s, .int .u64 (n : Int), .int .u64 (v : Int)] 25)).cell? ⟨2, 0, none⟩ = some (snt A.u) := (hA.alloc _).cu
  have gn : (w.alloc (.cells #[.int .i64 1, .string s, .int .u64 (n : Int), .int .u64 (v : Int)] 25)).cell? ⟨1, 0, none⟩ = some (snt A.n) := (hA.alloc _).cn
  clear hA
  unfold snt at gu gn
  have gg : ∀ (w2 : World), Below (w.alloc (.cells #[.int .i64 1, .string s, .int .u64 (n : Int), .int .u64 (v : Int)] 25)).heap.size (w.alloc (.cells #[.int .i64 1, .string s, .int .u64 (n : Int), .int .u64 (v : Int)] 25)) w2 → w2.cell? ⟨1, 0, none⟩ = some (.iface 279 (.pointer (some A.n))) := fun w2 hb => (((HA.out.alloc _).below hb (Nat.le_refl _)).cn)
  have GG := Lib.hid gg
  clear gg
  by_cases h0 : n = 0 ∧ v = 0
  · obtain ⟨rfl, rfl⟩ := h0
    have hR3 : R = (s.data.toList.isEmpty || nameB s.data.toList) := hR2
    clear hR2
    cases he : s.data.toList.isEmpty with
    | true =>
      rw [he] at hR3 hse
      have hr : R = true := hR3
      subst hr
      clear hR3 he
      go_enter Tryz.func118, Tryz.ntmps118
      go_wp2_with fail
      go_ret
      exact ⟨(Below.refl _ _).alloc (Nat.le_refl _) _, .inl ⟨rfl, rfl⟩⟩
    | false =>
      rw [he] at hR3 hse
      have hr : R = nameB s.data.toList := hR3
      generalize nameB s.data.toList = N at *
      subst hr
      clear hR3 he
      cases R with
      | true =>
        go_enter Tryz.func118, Tryz.ntmps118
        go_wp2_with fail
        refine (C1.out _).mono ?_
        rintro e w1 ⟨rfl, hb⟩
        have HB := Lib.hid hb
        clear hb
        go_wp2_with fail
        go_ret
        exact ⟨((Below.refl _ _).alloc (Nat.le_refl _) _).trans (HB.out.mono (le_alloc _ _)), .inl ⟨rfl, rfl⟩⟩
      | false =>
        go_enter Tryz.func118, Tryz.ntmps118
        go_wp2_with fail
        refine (C1.out _).mono ?_
        rintro e w1 ⟨rfl, hb⟩
        have g1 := GG.out _ hb
        have HB := Lib.hid hb
        clear hb
        go_wp2_with fail
        go_ret
        exact ⟨((Below.refl _ _).alloc (Nat.le_refl _) _).trans (HB.out.mono (le_alloc _ _)), .inr ⟨rfl, A.n, .inr (.inl rfl), rfl⟩⟩
  · have hr : R = false := by
      rw [hR2]
      have : (n == 0 && v == 0) = false := by
        rw [Bool.eq_false_iff]
        intro h
        simp at h
        exact h0 h
      rw [this, Bool.false_and]
    subst hr
    clear hR2
    have h1 : ¬ ((n : Int) = 0 ∧ (v : Int) = 0) := by omega
    clear h0 GG HA C1 hse
    generalize (n : Int) = N at *
    generalize (v : Int) = V at *
    by_cases hn : N = 0
    · subst hn
      have hv : ¬ V = 0 := fun h => h1 ⟨rfl, h⟩
      clear h1
      go_enter Tryz.func118, Tryz.ntmps118
      go_wp2_with fail
      go_ret
      exact ⟨(Below.refl _ _).alloc (Nat.le_refl _) _, .inr ⟨rfl, A.u, .inr (.inr (.inl rfl)), rfl⟩⟩
    · clear h1
      go_enter Tryz.func118, Tryz.ntmps118
      go_wp2_with fail
      go_ret
      exact ⟨(Below.refl _ _).alloc (Nat.le_refl _) _, .inr ⟨rfl, A.u, .inr (.inr (.inl rfl)), rfl⟩⟩
end Go.Proofs.YtlecbblmaadpiaaGreatDoor
/- errors.Is over the chains of layer 4: a sentinel, or a fault by value round such a chain; and numberOf. -/
namespace Go.Proofs.YtlecbblmaadpiaaGreatDoor
open Go.RowKit Go.Extern.Stop Go.Stop Go.Extern
inductive Ch (A : Snt) : Nat → Value → Addr → Prop
  | leaf (a : Addr) : OneOf A a → Ch A 0 (snt a) a
  | wrap (k : Nat) (s : ByteArray) (t : TypeId) (v : Value) (a : Addr) : Ch A k (.iface t v) a → Ch A (k + 1) (.iface 149 (.agg #[.string s, .iface t v])) a
theorem isTypeOf (v : Value) (w : World) : (Extern.ReflectliteType.typeOf #[.iface 279 v]).run Tryz.prog w = .ok (.iface 236 (.agg #[.pointer (some ⟨11, 279, none⟩)])) w := by kernel_rfl
theorem isComparable (w : World) : ((Extern.ReflectliteType.method fun t => do Extern.Rtype.noPackHeld "Comparable" t; (fun a => Value.bool a.comparable) <$> typeInfo t) #[.agg #[.pointer (some ⟨11, 279, none⟩)]]).run Tryz.prog w = .ok (.bool true) w := by kernel_rfl
theorem isMethodComparable (n : Nat) (v : Value) (w : World) : (Go.method (n + 8) 236 v "Comparable").run Tryz.prog w = .ok (279, v) w := by kernel_rfl
theorem isComp : (Tryz.prog.info? 279).map (·.comparable) = some true := by kernel_rfl
theorem isSize : (Tryz.prog.info? 281).map (·.size) = some 1 := by kernel_rfl
theorem noIsE (v : Value) (xT : TypeId) (w : World) : (Instr.typeAssert (.iface 279 v) xT 238 true).run Tryz.prog w = .ok (.tuple #[.nilIface, .bool false]) w := run_typeAssert_lacksB Tryz.underlying238 (by kernel_rfl) (by kernel_rfl) v xT w
theorem noUnwrapE (v : Value) (xT : TypeId) (w : World) : (Instr.typeAssert (.iface 279 v) xT 241 true).run Tryz.prog w = .ok (.tuple #[.nilIface, .bool false]) w := run_typeAssert_lacksB Tryz.underlying241 (by kernel_rfl) (by kernel_rfl) v xT w
theorem noUnwrapsE (v : Value) (xT : TypeId) (w : World) : (Instr.typeAssert (.iface 279 v) xT 243 true).run Tryz.prog w = .ok (.tuple #[.nilIface, .bool false]) w := run_typeAssert_lacksB Tryz.underlying243 (by kernel_rfl) (by kernel_rfl) v xT w
theorem noIsW (v : Value) (xT : TypeId) (w : World) : (Instr.typeAssert (.iface 149 v) xT 238 true).run Tryz.prog w = .ok (.tuple #[.nilIface, .bool false]) w := run_typeAssert_lacksB Tryz.underlying238 (by kernel_rfl) (by kernel_rfl) v xT w
theorem hasUnwrapW (v : Value) (xT : TypeId) (w : World) : (Instr.typeAssert (.iface 149 v) xT 241 true).run Tryz.prog w = .ok (.tuple #[.iface 149 v, .bool true]) w := run_typeAssert_hasB Tryz.underlying241 (by kernel_rfl) v xT w
theorem methodUnwrap (n : Nat) (v : Value) (w : World) : (Go.method (n + 8) 149 v "Unwrap").run Tryz.prog w = .ok (268, v) w := by kernel_rfl
def links : Nat → Value → Nat
  | 0, _ => 0
  | n + 1, .iface _ (.agg #[_, v]) => links n v + 1
  | _ + 1, _ => 0
theorem Ch.len {A : Snt} {k : Nat} {E : Value} {a : Addr} (h : Ch A k E a) : ∀ n, k < n → links n E = k := by
  induction h with
  | leaf a _ =>
    intro n hn
    obtain ⟨m, rfl⟩ : ∃ m, n = m + 1 := ⟨n - 1, by omega⟩
    rfl
  | wrap k s t v a h ih =>
    intro n hn
    obtain ⟨m, rfl⟩ : ∃ m, n = m + 1 := ⟨n - 1, by omega⟩
    show links m (.iface t v) + 1 = k + 1
    rw [ih m (by omega)]
theorem Ch.one {A : Snt} {k : Nat} {E : Value} {a : Addr} (h : Ch A k E a) : OneOf A a := by
  induction h with
  | leaf a h => exact h
  | wrap k s t v a h ih => exact ih
set_option maxRecDepth 1000000 in
set_option maxHeartbeats 4000000 in
theorem is_any (A : Snt) (k : Nat) (E : Value) (a b : Addr) (w : World) (hA : Lds A w) (hch : Ch A k E a) (hk : k ≤ 8) (hob : OneOf A b) :
    Calls Tryz.prog 152 #[E, snt b, .bool true] w fun e w' => e = .returned (.bool (decide (a = b))) ∧ Below w.heap.size w w' := by
  obtain ⟨i, hi, hcmp⟩ := Option.map_eq_some_iff.1 isComp
  obtain ⟨j, hj, hjs⟩ := Option.map_eq_some_iff.1 isSize
  have nE := noIsE
  have uE := noUnwrapE
  have vE := noUnwrapsE
  have nW := noIsW
  have uW := hasUnwrapW
  have mU := methodUnwrap
  have HA := Lib.hid hA
  have HCH := Lib.hid hch
  obtain ⟨R, hR⟩ : ∃ R, R = decide (a = b) := ⟨_, rfl⟩
  rw [← hR]
  have HR := Lib.hid hR
  clear hA hch hR
  unfold snt
  go_enter Tryz.func152, Tryz.ntmps152
  go_wp2_with fail
  go_loopw [0] (fun E' wl => Hid (Below w.heap.size w wl) ∧ ∃ k', k' ≤ 8 ∧ Ch A k' E' a) (fun E' _ => links 9 E')
  case atStart => exact ⟨Below.refl _ _, k, hk, HCH.out⟩
  case round =>
    obtain ⟨HB, k', hk', hc'⟩ := hrel
    have hA2 := HA.out.below HB.out (Nat.le_refl _)
    obtain ⟨cb, tb, hb⟩ := hA2.row b hob
    have hlen0 := hc'.len 9 (by omega)
    cases hc' with
    | leaf a hoa =>
      obtain ⟨ca, ta, ha⟩ := hA2.row a hoa
      unfold snt at *
      by_cases hab : a = b
      · subst hab
        have hr : R = true := by rw [HR.out]; simp
        subst hr
        have heq := run_eql_iface_ptr_same (P := Tryz.prog) wr a Tryz.underlying95 Tryz.underlying279 hi hcmp hj
        clear hA2
        go_wp2_with fail
        go_ret
        exact ⟨rfl, HB.out⟩
      · have hr : R = false := by rw [HR.out]; simp [hab]
        subst hr
        have heq := run_eql_iface_ptr_other (P := Tryz.prog) wr Tryz.underlying95 Tryz.underlying279 hi hcmp hj (by rw [hjs]; decide) hab ha hb
        clear hA2
        go_wp2_with fail
        go_ret
        exact ⟨rfl, HB.out⟩
    | wrap k1 s t v a h1 =>
      have hty := run_eql_iface_types (P := Tryz.prog) 149 279 (.agg #[.string s, .iface t v]) (.pointer (some b)) Tryz.underlying95 (by decide) wr
      have hlen := h1.len 9 (by omega)
      have q1 := fun (W : World) (u : TypeId) (x : Value) => run_eql_iface_nil (P := Tryz.prog) (w := W) 95 (by kernel_rfl) u x
      have HC := Lib.hid h1
      have HL := Lib.hid hlen
      have HL0 := Lib.hid hlen0
      clear h1 hA2 hlen hlen0
      go_wp2
      go_roundw
      case rel => exact ⟨HB.out.trans (((Below.refl _ _).alloc (Nat.le_refl _) _).mono HB.out.size), k1, by omega, HC.out⟩
      case measure =>
        show links 9 (.iface t v) < _
        rw [HL.out, HL0.out]
        exact Nat.lt_succ_self _
set_option maxRecDepth 1000000 in
set_option maxHeartbeats 4000000 in
theorem eis_any (A : Snt) (k : Nat) (E : Value) (a b : Addr) (w : World) (hA : Lds A w) (hch : Ch A k E a) (hk : k ≤ 8) (hob : OneOf A b) :
    Calls Tryz.prog 117 #[E, snt b] w fun e w' => e = .returned (.bool (decide (a = b))) ∧ Below w.heap.size w w' := by
  have h8 := @run_callFunc_extern Tryz.prog 151 _ Extern.ReflectliteType.typeOf Tryz.func151 (by kernel_rfl) (by kernel_rfl) (by kernel_rfl) (by kernel_rfl)
  have h32 := @run_callFunc_extern Tryz.prog 279 _ (Extern.ReflectliteType.method fun t => do Extern.Rtype.noPackHeld "Comparable" t; pure (.bool (← typeInfo t).comparable)) Tryz.func279 (by kernel_rfl) (by kernel_rfl) (by kernel_rfl) (by kernel_rfl)
  have tT := isTypeOf
  have cT := isComparable
  have mR := isMethodComparable
  have C1 := Lib.hid (is_any A k E a b w hA hch hk hob)
  have q1 := fun (W : World) (u : TypeId) (x : Value) => run_eql_iface_nil (P := Tryz.prog) (w := W) 95 (by kernel_rfl) u x
  generalize decide (a = b) = R at *
  obtain ⟨t, v, rfl⟩ : ∃ t v, E = .iface t v := by cases hch <;> exact ⟨_, _, rfl⟩
  clear hA hch hob
  unfold snt at *
  go_enter Tryz.func117, Tryz.ntmps117
  go_wp2_with (first
    | (go_at_call 152; refine C1.out.mono ?_; rintro e w1 ⟨rfl, hb⟩; have HB := Lib.hid hb; clear hb)
    | go_in)
  go_ret
  exact ⟨rfl, HB.out⟩
set_option maxRecDepth 1000000 in
set_option maxHeartbeats 4000000 in
theorem eis_nil (b : Addr) (w : World) :
    Calls Tryz.prog 117 #[.nilIface, snt b] w fun e w' => e = .returned (.bool false) ∧ w = w' := by
  have hn := fun (W : World) (p : Value) => run_eql_iface_nil_left (P := Tryz.prog) W 279 p Tryz.underlying95
  unfold snt
  go_enter Tryz.func117, Tryz.ntmps117
  go_wp2
  go_ret
  exact ⟨rfl, rfl⟩
set_option maxRecDepth 100000 in
set_option maxHeartbeats 4000000 in
theorem number_nil (A : Snt) (w : World) (hA : Lds A w) :
    Calls Tryz.prog 66 #[.nilIface] w fun e w' => e = .returned (.int .i64 0) ∧ w = w' := by
  have cs := hA.cs
  have cn := hA.cn
  have cu := hA.cu
  have cf := hA.cf
  clear hA
  unfold snt at *
  have C1 := Lib.hid (fun b => eis_nil b w)
  unfold snt at *
  go_enter Tryz.func66, Tryz.ntmps66
  go_wp2_with (first
    | (go_at_call 117; refine (C1.out _).mono ?_; rintro e w1 ⟨rfl, rfl⟩)
    | fail)
  go_ret
  exact ⟨rfl, rfl⟩
set_option maxRecDepth 100000 in
set_option maxHeartbeats 4000000 in
theorem number_ch (A : Snt) (k : Nat) (E : Value) (a : Addr) (w : World) (hA : Lds A w) (hch : Ch A k E a) (hk : k ≤ 8) :
    Calls Tryz.prog 66 #[E] w fun e w' => e = .returned (.int .i64 40) ∧ Below w.heap.size w w' := by
  have L1 := fun (W : World) (hb : Below w.heap.size w W) => hA.below hb (Nat.le_refl _)
  have C1 := Lib.hid (fun (b : Addr) (W : World) (hb : Below w.heap.size w W) (ho : OneOf A b) => eis_any A k E a b W (L1 W hb) hch hk ho)
  have G : ∀ W, Below w.heap.size w W → W.cell? ⟨0, 0, none⟩ = some (snt A.s) ∧ W.cell? ⟨1, 0, none⟩ = some (snt A.n) ∧ W.cell? ⟨2, 0, none⟩ = some (snt A.u) ∧ W.cell? ⟨3, 0, none⟩ = some (snt A.f) := fun W hb => ⟨(L1 W hb).cs, (L1 W hb).cn, (L1 W hb).cu, (L1 W hb).cf⟩
  have G0 := G w (Below.refl _ _)
  obtain ⟨g1, g2, g3, g4⟩ := G0
  have HG := Lib.hid G
  have ho := hch.one
  have HO := Lib.hid hA.ne
  clear G hA hch L1
  unfold snt at *
  go_enter Tryz.func66, Tryz.ntmps66
  go_wp2_with fail
  refine (C1.out A.s _ (Below.refl _ _) (.inl rfl)).mono ?_
  rintro e w1 ⟨rfl, hb1⟩
  have G1 := HG.out w1 hb1
  have HB1 := Lib.hid hb1
  clear hb1 g1 g2 g3 g4
  obtain ⟨g1, g2, g3, g4⟩ := G1
  by_cases a1 : a = A.s
  · rw [decide_eq_true a1]
    clear a1 ho
    go_wp2_with fail
    go_ret
    exact ⟨rfl, HB1.out⟩
  rw [decide_eq_false a1]
  go_wp2_with fail
  refine (C1.out A.n _ HB1.out (.inr (.inl rfl))).mono ?_
  rintro e w2 ⟨rfl, hb2⟩
  have hb2' := HB1.out.trans (hb2.mono HB1.out.size)
  have G1 := HG.out w2 hb2'
  have HB2 := Lib.hid hb2'
  clear hb2 hb2' g1 g2 g3 g4
  obtain ⟨g1, g2, g3, g4⟩ := G1
  by_cases a2 : a = A.n
  · rw [decide_eq_true a2]
    clear a1 a2 ho
    go_wp2_with fail
    go_ret
    exact ⟨rfl, HB2.out⟩
  rw [decide_eq_false a2]
  go_wp2_with fail
  refine (C1.out A.u _ HB2.out (.inr (.inr (.inl rfl)))).mono ?_
  rintro e w3 ⟨rfl, hb3⟩
  have hb3' := HB2.out.trans (hb3.mono HB2.out.size)
  have G1 := HG.out w3 hb3'
  have HB3 := Lib.hid hb3'
  clear hb3 hb3' g1 g2 g3 g4
  obtain ⟨g1, g2, g3, g4⟩ := G1
  by_cases a3 : a = A.u
  · rw [decide_eq_true a3]
    clear a1 a2 a3 ho
    go_wp2_with fail
    go_ret
    exact ⟨rfl, HB3.out⟩
  rw [decide_eq_false a3]
  have a4 : a = A.f := by
    rcases ho with h | h | h | h
    · exact absurd h a1
    · exact absurd h a2
    · exact absurd h a3
    · exact h
  go_wp2_with fail
  refine (C1.out A.f _ HB3.out (.inr (.inr (.inr rfl)))).mono ?_
  rintro e w4 ⟨rfl, hb4⟩
  have HB4 := Lib.hid (HB3.out.trans (hb4.mono HB3.out.size))
  clear hb4 g1 g2 g3 g4
  rw [decide_eq_true a4]
  clear a1 a2 a3 a4 ho
  go_wp2_with fail
  go_ret
  exact ⟨rfl, HB4.out⟩
theorem number_nilB (A : Snt) (w : World) (hA : Lds A w) :
    Calls Tryz.prog 66 #[.nilIface] w fun e w' => e = .returned (.int .i64 0) ∧ Below w.heap.size w w' :=
  (number_nil A w hA).mono (by rintro e w' ⟨rfl, rfl⟩; exact ⟨rfl, Below.refl _ _⟩)
theorem put4_cell_ {W : World} {g : Nat} {p : Addr} {u v0 v1 v2 v3 : Value} (h : W.cell? p = some u) (hg : ¬ g = p.block) : ((((W.setCell ⟨g, 0, none⟩ v0).setCell ⟨g, 1, none⟩ v1).setCell ⟨g, 2, none⟩ v2).setCell ⟨g, 3, none⟩ v3).cell? p = some u := by
  rw [World.cell?_setCell_far _ _ _ _ hg, World.cell?_setCell_far _ _ _ _ hg, World.cell?_setCell_far _ _ _ _ hg, World.cell?_setCell_far _ _ _ _ hg]
  exact h
end Go.Proofs.YtlecbblmaadpiaaGreatDoor
