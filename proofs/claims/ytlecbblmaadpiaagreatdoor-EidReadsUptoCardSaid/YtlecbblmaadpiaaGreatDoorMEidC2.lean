/- What the checks of layer 4 return: isName, checkDtn, checkIpn, check, Check, None; the sentinels that stand in the package's variables. -/
import Derived.Test.YtlecbblmaadpiaaGreatDoorMEidL2
import Derived.Stop.IfaceNil
namespace Go.Proofs.YtlecbblmaadpiaaGreatDoor
open Go.RowKit
structure Snt where
  s : Addr
  n : Addr
  u : Addr
  f : Addr
def OneOf (A : Snt) (a : Addr) : Prop := a = A.s ∨ a = A.n ∨ a = A.u ∨ a = A.f
def snt (a : Addr) : Value := .iface 279 (.pointer (some a))
structure Lds (A : Snt) (w : World) : Prop where
  cs : w.cell? ⟨0, 0, none⟩ = some (snt A.s)
  cn : w.cell? ⟨1, 0, none⟩ = some (snt A.n)
  cu : w.cell? ⟨2, 0, none⟩ = some (snt A.u)
  cf : w.cell? ⟨3, 0, none⟩ = some (snt A.f)
  row : ∀ a, OneOf A a → ∃ c t, w.heap[a.block]? = some (.cells c t (0, 0))
  ne : A.s ≠ A.n ∧ A.s ≠ A.u ∧ A.s ≠ A.f ∧ A.n ≠ A.u ∧ A.n ≠ A.f ∧ A.u ≠ A.f
  y : ∃ t p, w.cell? ⟨6, 0, none⟩ = some (.iface t p)
  z : ∃ t p, w.cell? ⟨7, 0, none⟩ = some (.iface t p)
theorem Lds.below {A : Snt} {w w' : World} {B : Nat} (h : Lds A w) (hb : Below B w w') (hB : w.heap.size ≤ B) : Lds A w' := by
  have k : ∀ {p : Addr} {v : Value}, w.cell? p = some v → w'.cell? p = some v := fun hc => (hb.cell (Nat.lt_of_lt_of_le (World.block_lt_of_cell? w _ hc) hB)).trans hc
  refine ⟨k h.cs, k h.cn, k h.cu, k h.cf, ?_, h.ne, ?_, ?_⟩
  · intro a ha
    obtain ⟨c, t, hc⟩ := h.row a ha
    have hl : a.block < w.heap.size := by
      rcases Nat.lt_or_ge a.block w.heap.size with h1 | h1
      · exact h1
      · rw [Array.getElem?_eq_none h1] at hc; cases hc
    exact ⟨c, t, (hb.block a.block (Nat.lt_of_lt_of_le hl hB)).trans hc⟩
  · obtain ⟨t, p, hc⟩ := h.y
    exact ⟨t, p, k hc⟩
  · obtain ⟨t, p, hc⟩ := h.z
    exact ⟨t, p, k hc⟩
theorem Lds.alloc {A : Snt} {w : World} (h : Lds A w) (o : Obj) : Lds A (w.alloc o) := h.below ((Below.refl _ _).alloc (Nat.le_refl _) o) (Nat.le_refl _)
theorem drewN_below {B : Nat} {w : World} (m : Nat) : Below B w (w.drewN m) := ⟨rfl, rfl, rfl, Nat.le_refl _, fun _ _ => rfl⟩
set_option maxRecDepth 100000 in
set_option maxHeartbeats 1000000 in
theorem or_any (w : World) :
    Calls Tryz.prog 191 #[.func (.func 190) #[] #[], .string ⟨#[47]⟩] w fun e w' => ∃ b1 b2, e = .returned (lsFn b1 b2) ∧ LsAt2 b1 b2 w' ∧ Below w.heap.size w w' := by
  go_enter Tryz.func191, Tryz.ntmps191
  go_wp2_with fail
  refine bodyPost_ret (v := lsFn w.heap.size (w.heap.size + 1)) (by simp [results, Tryz.results191, go_sem, lsFn]) rfl ⟨w.heap.size, w.heap.size + 1, rfl, ⟨?_, ?_⟩, ?_⟩
  · rw [World.cell?_alloc_lt _ _ _ (by simp)]; rw [World.cell?_alloc_at _ _ _ _ rfl]; rfl
  · rw [World.cell?_alloc_at _ _ _ _ (by simp)]; rfl
  · exact ((Below.refl _ _).alloc (Nat.le_refl _) _).alloc (by simp) _
set_option maxRecDepth 100000 in
set_option maxHeartbeats 1000000 in
theorem isname_any (s : ByteArray) (w : World) (hs : s.size ≤ 140737488355328) :
    Calls Tryz.prog 153 #[.string s] w fun e w' => e = .returned (.bool (nameB s.data.toList)) ∧ Below w.heap.size w w' := by
  have hsz : s.size = s.data.toList.length := Lib.size_eq s
  rw [← nameC_eq]
  obtain ⟨R, hR⟩ : ∃ R, R = nameC s.data.toList := ⟨_, rfl⟩
  rw [← hR]
  unfold nameC at hR
  by_cases h64 : 64 < s.size
  · have hr : R = false := by rw [hR, decide_eq_false (by omega)]; rfl
    subst hr
    clear hR hsz
    have h64i : decide ((64 : Int) < (s.size : Int)) = true := by simp; omega
    go_enter Tryz.func153, Tryz.ntmps153
    go_wp2_with fail
    go_ret
    exact ⟨rfl, Below.refl _ _⟩
  have h65 : s.size ≤ 64 := by omega
  rw [decide_eq_true (by omega), Bool.true_and] at hR
  have C1 := Lib.hid (Tryz.strings_CutPrefix s ⟨#[47, 47]⟩ w)
  have e47 : (⟨#[47, 47]⟩ : ByteArray).data.toList = [47, 47] := rfl
  rw [e47] at C1
  by_cases hp : Lib.hasPrefix s.data.toList [47, 47] = true
  · rw [hp, Bool.true_and] at hR
    have et : Lib.trimPrefix s.data.toList [47, 47] = s.data.toList.drop 2 := by unfold Lib.trimPrefix; rw [if_pos hp]; rfl
    rw [hp, et] at C1
    have hrl : (s.data.toList.drop 2).length ≤ 64 := by rw [List.length_drop]; omega
    generalize s.data.toList.drop 2 = r at *
    have C2 := Lib.hid (fun W => cut_any ⟨r.toArray⟩ 47 W (by rw [Lib.size_eq]; simp; omega))
    unfold cutV at C2
    rw [show (⟨r.toArray⟩ : ByteArray).data.toList = r by simp] at C2
    have hal := ahead_le 47 r
    have hbl : (behind 47 r).length ≤ 64 := by unfold behind; rw [List.length_drop]; omega
    by_cases hh : hasB 47 r = true
    · rw [hh, Bool.true_and] at hR
      rw [hh] at C2
      generalize ahead 47 r = u at *
      generalize behind 47 r = t at *
      have hus : (⟨u.toArray⟩ : ByteArray).data.toList = u := by simp
      have hts : (⟨t.toArray⟩ : ByteArray).data.toList = t := by simp
      have C3 := Lib.hid (fun W => only_letter ⟨u.toArray⟩ W (by rw [Lib.size_eq, hus]; omega))
      have C5 := Lib.hid (fun b1 b2 W h => only_ls ⟨t.toArray⟩ b1 b2 W h (by rw [Lib.size_eq, hts]; omega))
      rw [hus] at C3
      rw [hts] at C5
      clear hp et hrl hal hbl hh hsz hus hts
      have hue : (⟨u.toArray⟩ : ByteArray).toList.isEmpty = u.isEmpty := by rw [Lib.toList_data]
      generalize (⟨u.toArray⟩ : ByteArray) = us at *
      generalize (⟨t.toArray⟩ : ByteArray) = ts at *
      cases hui : u.isEmpty with
      | true =>
        rw [hui] at hue hR
        have hr : R = false := hR
        subst hr
        clear hR hui
        go_enter Tryz.func153, Tryz.ntmps153
        go_wp2_with (first
          | (go_at_call 155; refine C1.out.mono ?_; rintro e w' ⟨rfl, rfl⟩)
          | (go_at_call 72; refine (C2.out _).mono ?_; rintro e w' ⟨rfl, m, rfl⟩)
          | fail)
        go_ret
        exact ⟨rfl, drewN_below m⟩
      | false =>
        rw [hui] at hue hR
        have hR2 : R = (u.all letterB && t.all lsB) := hR
        clear hR hui
        generalize t.all lsB = T at *
        cases hul : u.all letterB with
        | false =>
          rw [hul] at C3 hR2
          have hr : R = false := hR2
          subst hr
          clear hR2 hul
          go_enter Tryz.func153, Tryz.ntmps153
          go_wp2_with (first
            | (go_at_call 155; refine C1.out.mono ?_; rintro e w' ⟨rfl, rfl⟩)
            | (go_at_call 72; refine (C2.out _).mono ?_; rintro e w' ⟨rfl, m, rfl⟩)
            | (go_at_call 189; refine (C3.out _).mono ?_; rintro e w' ⟨rfl, rfl⟩)
            | fail)
          go_ret
          exact ⟨rfl, drewN_below m⟩
        | true =>
          rw [hul] at C3 hR2
          have hr : R = T := hR2
          subst hr
          clear hR2 hul
          go_enter Tryz.func153, Tryz.ntmps153
          go_wp2_with (first
            | (go_at_call 155; refine C1.out.mono ?_; rintro e w' ⟨rfl, rfl⟩)
            | (go_at_call 72; refine (C2.out _).mono ?_; rintro e w' ⟨rfl, m, rfl⟩)
            | fail)
          refine (C3.out _).mono ?_
          rintro e w1 ⟨rfl, rfl⟩
          go_wp2_with fail
          refine (or_any _).mono ?_
          rintro e w2 ⟨b1, b2, rfl, hat, hb⟩
          have C6 := Lib.hid (C5.out b1 b2 w2 hat)
          have HB := Lib.hid hb
          clear hat hb C5
          unfold lsFn at *
          go_wp2_with fail
          refine C6.out.mono ?_
          rintro e w3 ⟨rfl, rfl⟩
          go_wp2_with fail
          go_ret
          exact ⟨rfl, (drewN_below m).trans HB.out⟩
    · rw [Bool.not_eq_true] at hh
      rw [hh, Bool.false_and] at hR
      rw [hh] at C2
      subst hR
      generalize (⟨(ahead 47 r).toArray⟩ : ByteArray) = us at *
      generalize (⟨(behind 47 r).toArray⟩ : ByteArray) = ts at *
      clear hh hal hbl hrl hsz
      go_enter Tryz.func153, Tryz.ntmps153
      go_wp2_with (first
        | (go_at_call 155; refine C1.out.mono ?_; rintro e w' ⟨rfl, rfl⟩)
        | (go_at_call 72; refine (C2.out _).mono ?_; rintro e w' ⟨rfl, m, rfl⟩)
        | fail)
      go_ret
      exact ⟨rfl, drewN_below m⟩
  · rw [Bool.not_eq_true] at hp
    rw [hp, Bool.false_and] at hR
    rw [hp] at C1
    subst hR
    have hrs : (⟨(Lib.trimPrefix s.data.toList [47, 47]).toArray⟩ : ByteArray).size ≤ 64 := by
      unfold Lib.trimPrefix
      rw [hp, Lib.size_eq]
      simp
      omega
    generalize (⟨(Lib.trimPrefix s.data.toList [47, 47]).toArray⟩ : ByteArray) = r at *
    have C2 := Lib.hid (fun W => cut_any r 47 W (by omega))
    unfold cutV at C2
    generalize (⟨(ahead 47 r.data.toList).toArray⟩ : ByteArray) = us at *
    generalize (⟨(behind 47 r.data.toList).toArray⟩ : ByteArray) = ts at *
    generalize hasB 47 r.data.toList = H at *
    clear hp hsz
    go_enter Tryz.func153, Tryz.ntmps153
    go_wp2_with (first
      | (go_at_call 155; refine C1.out.mono ?_; rintro e w' ⟨rfl, rfl⟩)
      | (go_at_call 72; refine (C2.out _).mono ?_; rintro e w' ⟨rfl, m, rfl⟩)
      | fail)
    go_ret
    exact ⟨rfl, drewN_below m⟩
def epdV (sc : Int) (s : ByteArray) (n v : Nat) : Value := .agg #[.int .i64 sc, .string s, .int .u64 (n : Int), .int .u64 (v : Int)]
def ep (sc : Int) (s : ByteArray) (n v : Nat) : Epd := ⟨sc, s.data.toList, n, v⟩
def Why (A : Snt) (b : Bool) (w : World) (e : Ending) (w' : World) : Prop := Below w.heap.size w w' ∧ ((b = true ∧ e = .returned .nilIface) ∨ (b = false ∧ ∃ a, OneOf A a ∧ e = .returned (snt a)))
theorem str_empty (s : ByteArray) : s.toList.isEmpty = s.data.toList.isEmpty := by rw [Lib.toList_data]
set_option maxRecDepth 100000 in
set_option maxHeartbeats 1000000 in
theorem checkdtn_any (A : Snt) (s : ByteArray) (n v : Nat) (w : World) (hA : Lds A w) (hs : s.size ≤ 140737488355328) :
    Calls Tryz.prog 118 #[epdV 1 s n v] w (Why A (checkB (ep 1 s n v)) w) := by
  obtain ⟨R, hR⟩ : ∃ R, R = checkB (ep 1 s n v) := ⟨_, rfl⟩
  rw [← hR]
  have hR2 : R = ((n == 0 && v == 0) && (s.data.toList.isEmpty || nameB s.data.toList)) := by rw [hR]; unfold checkB; rw [if_pos (show (ep 1 s n v).scheme = 1 from rfl)]; rfl
  clear hR
  have C1 := Lib.hid (fun W => isname_any s W hs)
  have hse := str_empty s
  unfold epdV
  have HA := Lib.hid hA
  have gu : (w.alloc (.cells #[.int .i64 1, .string s, .int .u64 (n : Int), .int .u64 (v : Int)] 25)).cell? ⟨2, 0, none⟩ = some (snt A.u) := (hA.alloc _).cu
  have gn : (w.alloc (.cells #[.int .i64 1, .string s, .int .u64 (n : Int), .int .u64 (v : Int)] 25)).cell? ⟨1, 0, none⟩ = some (snt A.n) := (hA.alloc _).cn
  clear hA
  unfold snt at gu gn
  have gg : ∀ (w2 : World), Below (w.alloc (.cells #[.int .i64 1, .string s, .int .u64 (n : Int), .int .u64 (v : Int)] 25)).heap.size (w.alloc (.cells #[.int .i64 1, .string s, .int .u64 (n : Int), .int .u64 (v : Int)] 25)) w2 → w2.cell? ⟨1, 0, none⟩ = some (.iface 279 (.pointer (some A.n))) := fun w2 hb => (((HA.out.alloc _).below hb (Nat.le_refl _)).cn)
  have GG := Lib.hid gg
  clear gg
  by_cases h0 : n = 0 ∧ v = 0
  · obtain ⟨rfl, rfl⟩ := h0
    have hR3 : R = (s.data.toList.isEmpty || nameB s.data.toList) := hR2
    clear hR2
    cases he : s.data.toList.isEmpty with
    | true =>
      rw [he] at hR3 hse
      have hr : R = true := hR3
      subst hr
      clear hR3 he
      go_enter Tryz.func118, Tryz.ntmps118
      go_wp2_with fail
      go_ret
      exact ⟨(Below.refl _ _).alloc (Nat.le_refl _) _, .inl ⟨rfl, rfl⟩⟩
    | false =>
      rw [he] at hR3 hse
      have hr : R = nameB s.data.toList := hR3
      generalize nameB s.data.toList = N at *
      subst hr
      clear hR3 he
      cases R with
      | true =>
        go_enter Tryz.func118, Tryz.ntmps118
        go_wp2_with fail
        refine (C1.out _).mono ?_
        rintro e w1 ⟨rfl, hb⟩
        have HB := Lib.hid hb
        clear hb
        go_wp2_with fail
        go_ret
        exact ⟨((Below.refl _ _).alloc (Nat.le_refl _) _).trans (HB.out.mono (le_alloc _ _)), .inl ⟨rfl, rfl⟩⟩
      | false =>
        go_enter Tryz.func118, Tryz.ntmps118
        go_wp2_with fail
        refine (C1.out _).mono ?_
        rintro e w1 ⟨rfl, hb⟩
        have g1 := GG.out _ hb
        have HB := Lib.hid hb
        clear hb
        go_wp2_with fail
        go_ret
        exact ⟨((Below.refl _ _).alloc (Nat.le_refl _) _).trans (HB.out.mono (le_alloc _ _)), .inr ⟨rfl, A.n, .inr (.inl rfl), rfl⟩⟩
  · have hr : R = false := by
      rw [hR2]
      have : (n == 0 && v == 0) = false := by
        rw [Bool.eq_false_iff]
        intro h
        simp at h
        exact h0 h
      rw [this, Bool.false_and]
    subst hr
    clear hR2
    have h1 : ¬ ((n : Int) = 0 ∧ (v : Int) = 0) := by omega
    clear h0 GG HA C1 hse
    generalize (n : Int) = N at *
    generalize (v : Int) = V at *
    by_cases hn : N = 0
    · subst hn
      have hv : ¬ V = 0 := fun h => h1 ⟨rfl, h⟩
      clear h1
      go_enter Tryz.func118, Tryz.ntmps118
      go_wp2_with fail
      go_ret
      exact ⟨(Below.refl _ _).alloc (Nat.le_refl _) _, .inr ⟨rfl, A.u, .inr (.inr (.inl rfl)), rfl⟩⟩
    · clear h1
      go_enter Tryz.func118, Tryz.ntmps118
      go_wp2_with fail
      go_ret
      exact ⟨(Below.refl _ _).alloc (Nat.le_refl _) _, .inr ⟨rfl, A.u, .inr (.inr (.inl rfl)), rfl⟩⟩
end Go.Proofs.YtlecbblmaadpiaaGreatDoor
/- What checkIpn, check, Check and None of layer 4 return. -/
namespace Go.Proofs.YtlecbblmaadpiaaGreatDoor
open Go.RowKit
set_option maxRecDepth 100000 in
set_option maxHeartbeats 1000000 in
theorem checkipn_any (A : Snt) (s : ByteArray) (n v : Nat) (w : World) (hA : Lds A w) :
    Calls Tryz.prog 119 #[epdV 2 s n v] w (Why A (checkB (ep 2 s n v)) w) := by
  obtain ⟨R, hR⟩ : ∃ R, R = checkB (ep 2 s n v) := ⟨_, rfl⟩
  rw [← hR]
  have hR2 : R = (s.data.toList.isEmpty && (decide (0 < n) && (decide (n ≤ 4294967295) && decide (v ≤ 4294967295)))) := by rw [hR]; unfold checkB; rw [if_neg (show ¬ (ep 2 s n v).scheme = 1 by show ¬ (2 : Int) = 1; decide)]; rfl
  clear hR
  have hse := str_empty s
  unfold epdV
  have gu : (w.alloc (.cells #[.int .i64 2, .string s, .int .u64 (n : Int), .int .u64 (v : Int)] 25)).cell? ⟨2, 0, none⟩ = some (snt A.u) := (hA.alloc _).cu
  have gn : (w.alloc (.cells #[.int .i64 2, .string s, .int .u64 (n : Int), .int .u64 (v : Int)] 25)).cell? ⟨1, 0, none⟩ = some (snt A.n) := (hA.alloc _).cn
  clear hA
  unfold snt at gu gn
  have hN : (decide (0 < n) && (decide (n ≤ 4294967295) && decide (v ≤ 4294967295))) = (decide ¬ ((n : Int) = 0) && (decide ¬ (4294967295 < (n : Int)) && decide ¬ (4294967295 < (v : Int)))) := by
    rw [Bool.eq_iff_iff]; simp; omega
  rw [hN] at hR2
  clear hN
  generalize (n : Int) = N at *
  generalize (v : Int) = V at *
  cases he : s.data.toList.isEmpty with
  | false =>
    rw [he] at hse hR2
    have hr : R = false := hR2
    subst hr
    clear hR2 he
    go_enter Tryz.func119, Tryz.ntmps119
    go_wp2_with fail
    go_ret
    exact ⟨(Below.refl _ _).alloc (Nat.le_refl _) _, .inr ⟨rfl, A.n, .inr (.inl rfl), rfl⟩⟩
  | true =>
    rw [he] at hse hR2
    clear he
    by_cases h1 : N = 0
    · subst h1
      have hr : R = false := by rw [hR2]; simp
      subst hr
      clear hR2
      go_enter Tryz.func119, Tryz.ntmps119
      go_wp2_with fail
      go_ret
      exact ⟨(Below.refl _ _).alloc (Nat.le_refl _) _, .inr ⟨rfl, A.u, .inr (.inr (.inl rfl)), rfl⟩⟩
    by_cases h2 : 4294967295 < N
    · have hr : R = false := by rw [hR2]; simp; omega
      subst hr
      clear hR2
      go_enter Tryz.func119, Tryz.ntmps119
      go_wp2_with fail
      go_ret
      exact ⟨(Below.refl _ _).alloc (Nat.le_refl _) _, .inr ⟨rfl, A.u, .inr (.inr (.inl rfl)), rfl⟩⟩
    have h2' : N ≤ 4294967295 := by omega
    by_cases h3 : 4294967295 < V
    · have hr : R = false := by rw [hR2]; simp; omega
      subst hr
      clear hR2
      go_enter Tryz.func119, Tryz.ntmps119
      go_wp2_with fail
      go_ret
      exact ⟨(Below.refl _ _).alloc (Nat.le_refl _) _, .inr ⟨rfl, A.u, .inr (.inr (.inl rfl)), rfl⟩⟩
    have h3' : V ≤ 4294967295 := by omega
    have hr : R = true := by rw [hR2]; simp; omega
    subst hr
    clear hR2
    go_enter Tryz.func119, Tryz.ntmps119
    go_wp2_with fail
    go_ret
    exact ⟨(Below.refl _ _).alloc (Nat.le_refl _) _, .inl ⟨rfl, rfl⟩⟩
theorem Why.boxed {A : Snt} {b : Bool} {w : World} {o : Obj} {e : Ending} {w' : World} (h : Why A b (w.alloc o) e w') : Why A b w e w' :=
  ⟨((Below.refl _ _).alloc (Nat.le_refl _) o).trans (h.1.mono (le_alloc _ _)), h.2⟩
set_option maxRecDepth 100000 in
set_option maxHeartbeats 1000000 in
theorem echeck_any (A : Snt) (sc : Int) (s : ByteArray) (n v : Nat) (w : World) (hA : Lds A w) (hs : s.size ≤ 140737488355328) :
    Calls Tryz.prog 68 #[epdV sc s n v] w (Why A (checkB (ep sc s n v)) w) := by
  have gs : (w.alloc (.cells #[.int .i64 sc, .string s, .int .u64 (n : Int), .int .u64 (v : Int)] 25)).cell? ⟨0, 0, none⟩ = some (snt A.s) := (hA.alloc _).cs
  unfold snt at gs
  by_cases h1 : sc = 1
  · subst h1
    have C1 := Lib.hid (checkdtn_any A s n v (w.alloc (.cells #[.int .i64 1, .string s, .int .u64 (n : Int), .int .u64 (v : Int)] 25)) (hA.alloc _) hs)
    clear hA gs
    generalize checkB (ep 1 s n v) = R at *
    unfold epdV at *
    go_enter Tryz.func68, Tryz.ntmps68
    go_wp2_with fail
    refine C1.out.mono ?_
    intro e w1 hy
    have HY := Lib.hid hy.boxed
    obtain ⟨hb, ⟨hc, rfl⟩ | ⟨hc, a, ha, rfl⟩⟩ := hy
    · clear hb hc
      go_wp2_with fail
      go_ret
      exact HY.out
    · clear hb hc ha
      unfold snt at *
      go_wp2_with fail
      go_ret
      exact HY.out
  by_cases h2 : sc = 2
  · subst h2
    have C1 := Lib.hid (checkipn_any A s n v (w.alloc (.cells #[.int .i64 2, .string s, .int .u64 (n : Int), .int .u64 (v : Int)] 25)) (hA.alloc _))
    clear hA gs
    generalize checkB (ep 2 s n v) = R at *
    unfold epdV at *
    go_enter Tryz.func68, Tryz.ntmps68
    go_wp2_with fail
    refine C1.out.mono ?_
    intro e w1 hy
    have HY := Lib.hid hy.boxed
    obtain ⟨hb, ⟨hc, rfl⟩ | ⟨hc, a, ha, rfl⟩⟩ := hy
    · clear hb hc
      go_wp2_with fail
      go_ret
      exact HY.out
    · clear hb hc ha
      unfold snt at *
      go_wp2_with fail
      go_ret
      exact HY.out
  have hr : checkB (ep sc s n v) = false := by
    unfold checkB
    rw [if_neg (show ¬ (ep sc s n v).scheme = 1 from h1)]
    have : ((ep sc s n v).scheme == 2) = false := beq_eq_false_iff_ne.2 h2
    rw [this, Bool.false_and]
  rw [hr]
  clear hr
  unfold epdV at *
  go_enter Tryz.func68, Tryz.ntmps68
  go_wp2_with fail
  go_ret
  exact ⟨(Below.refl _ _).alloc (Nat.le_refl _) _, .inr ⟨rfl, A.s, .inl rfl, rfl⟩⟩
set_option maxRecDepth 100000 in
set_option maxHeartbeats 1000000 in
theorem ccheck_any (A : Snt) (sc : Int) (s : ByteArray) (n v : Nat) (w : World) (hA : Lds A w) (hs : s.size ≤ 140737488355328) :
    Calls Tryz.prog 15 #[epdV sc s n v] w fun e w' => e = .returned (.bool (checkB (ep sc s n v))) ∧ Below w.heap.size w w' := by
  have C1 := Lib.hid (echeck_any A sc s n v (w.alloc (.cells #[.int .i64 sc, .string s, .int .u64 (n : Int), .int .u64 (v : Int)] 25)) (hA.alloc _) hs)
  clear hA
  generalize checkB (ep sc s n v) = R at *
  unfold epdV at *
  have q1 := fun (W : World) (u : TypeId) (x : Value) => run_eql_iface_nil (P := Tryz.prog) (w := W) 95 (by kernel_rfl) u x
  go_enter Tryz.func15, Tryz.ntmps15
  go_wp2_with fail
  refine C1.out.mono ?_
  intro e w1 hy
  obtain ⟨hb, ⟨rfl, rfl⟩ | ⟨rfl, a, ha, rfl⟩⟩ := hy
  · have HB := Lib.hid hb
    clear hb
    go_wp2_with fail
    go_ret
    exact ⟨rfl, ((Below.refl _ _).alloc (Nat.le_refl _) _).trans (HB.out.mono (le_alloc _ _))⟩
  · have HB := Lib.hid hb
    clear hb ha
    unfold snt at *
    go_wp2_with fail
    go_ret
    exact ⟨rfl, ((Below.refl _ _).alloc (Nat.le_refl _) _).trans (HB.out.mono (le_alloc _ _))⟩
set_option maxRecDepth 100000 in
set_option maxHeartbeats 1000000 in
theorem none_any (sc : Int) (s : ByteArray) (n v : Nat) (w : World) :
    Calls Tryz.prog 17 #[epdV sc s n v] w fun e w' => e = .returned (.bool (noneB (ep sc s n v))) ∧ Below w.heap.size w w' := by
  obtain ⟨R, hR⟩ : ∃ R, R = noneB (ep sc s n v) := ⟨_, rfl⟩
  rw [← hR]
  have HR := Lib.hid hR
  clear hR
  unfold epdV
  go_enter Tryz.func17, Tryz.ntmps17
  go_wp2_with fail
  all_goals go_ret
  all_goals
    refine ⟨congrArg (fun b => Ending.returned (Value.bool b)) ((?_ : _ = _).trans HR.out.symm), (Below.refl _ _).alloc (Nat.le_refl _) _⟩
    unfold noneB ep
    simp [← Lib.toList_data, *]
end Go.Proofs.YtlecbblmaadpiaaGreatDoor
