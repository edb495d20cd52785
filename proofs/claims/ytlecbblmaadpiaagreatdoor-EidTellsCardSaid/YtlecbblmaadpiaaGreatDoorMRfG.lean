/- append of a slice, perhaps of no element, onto one that the call owns; rows beside. No program's functions. -/
import Derived.Test.YtlecbblmaadpiaaGreatDoorMBlkD
import Derived.Test.YtlecbblmaadpiaaGreatDoorMCborCs
import Derived.Test.YtlecbblmaadpiaaGreatDoorMEidI2
import Derived.Test.YtlecbblmaadpiaaGreatDoorMRfF
import Derived.Deep.AppendLies
import Derived.Deep.RegionHeld3
import Derived.Below
namespace Go.Proofs.YtlecbblmaadpiaaGreatDoor
open Go.RowKit
def RowAt (w : World) (g : Nat) (cs : List Value) : Prop := g < w.heap.size ∧ ∀ j u, cs[j]? = some u → w.cell? ((⟨g, 0, none⟩ : Addr).add j) = some u
theorem addr0 (g j : Nat) : (⟨g, 0, none⟩ : Addr).add j = ⟨g, j, none⟩ := by unfold Addr.add; split <;> simp_all
theorem RowAt.made (w : World) (cs : Array Value) (t : TypeId) : RowAt (w.alloc (.cells cs t)) w.heap.size cs.toList :=
  ⟨by simp, fun j u hj => by
    rw [addr0, World.cell?_alloc_at _ _ _ _ rfl]
    simpa using hj⟩
theorem RowAt.below {w w' : World} {g : Nat} {cs : List Value} (h : RowAt w g cs) (hb : Below w.heap.size w w') : RowAt w' g cs :=
  ⟨Nat.lt_of_lt_of_le h.1 hb.size, fun j u hj => by rw [addr0, hb.cell (p := ⟨g, j, none⟩) h.1, ← addr0]; exact h.2 j u hj⟩
theorem RowAt.alloc {w : World} {g : Nat} {cs : List Value} (h : RowAt w g cs) (o : Obj) : RowAt (w.alloc o) g cs := h.below ((Below.refl _ _).alloc (Nat.le_refl _) o)
theorem RowAt.grown {w w' : World} {g g0 : Nat} {cs : List Value} (h : RowAt w g cs) (hg : w.grownBy w' (some g0)) (hne : g ≠ g0) : RowAt w' g cs :=
  ⟨Nat.lt_of_lt_of_le h.1 hg.size, fun j u hj => by rw [addr0, hg.cell_far ⟨g, j, none⟩ h.1 (fun e => hne (Option.some.inj e)), ← addr0]; exact h.2 j u hj⟩
theorem takeR {P : Program} {md : Region.Mode} {l : List Oper} {Q : Exit → Act → World → Prop} {S : World → Prop} {i : Nat} {oi : Oper} {v : Value} {fuel : Nat} {listed : Array Bool} {a : Act} {w : World} (hi : l[i]? = some oi)
    (hs : Region.noSelect l.toArray = true) (hf : Region.free md l.toArray listed i = true) (hr : (Region.ready md l.toArray listed).contains i = true)
    (hQ : ∀ c a w, Q (.panic c) (a.put oi.dst v) w → Q (.panic c) a w) (hw : Region.wanted oi (yielded l.toArray a.tmps) = true) (hy : ∀ w, S w → (execOp a.eval oi).run P w = .ok (.value v) w) (hS : S w)
    (h : wpAnyH P md l.toArray Q S fuel (listed.setIfInBounds i true) (a.put oi.dst v) w) : wpAnyH P md l.toArray Q S (fuel + 1) listed a w :=
  wpAnyH_take (oi := oi) (v := v) (by simpa using hi) hs hf hr hQ (Or.inl ⟨hw, hy⟩) hS h
end Go.Proofs.YtlecbblmaadpiaaGreatDoor
/- What Dec of layer 1's reference returns. -/
namespace Go.Proofs.YtlecbblmaadpiaaGreatDoor
open Go.RowKit
open Go.Lib (decDigits)
theorem dig_cut (d : Nat) (hd : d < 10) (x y : Int) (hx : x = (d : Int)) (hy : y = (d : Int) + 1) (W : World) :
    (Instr.slice 9 (.string ⟨#[48, 49, 50, 51, 52, 53, 54, 55, 56, 57, 97, 98, 99, 100, 101, 102]⟩) (some (.int .u64 x)) (some (.int .u64 y)) none).run Tryz.prog W = .ok (.string ⟨#[UInt8.ofNat (48 + d)]⟩) W := by
  have ht := Tryz.underlying9
  subst hx hy
  match d, hd with
  | 0, _ => go_simp; try rfl
  | 1, _ => go_simp; try rfl
  | 2, _ => go_simp; try rfl
  | 3, _ => go_simp; try rfl
  | 4, _ => go_simp; try rfl
  | 5, _ => go_simp; try rfl
  | 6, _ => go_simp; try rfl
  | 7, _ => go_simp; try rfl
  | 8, _ => go_simp; try rfl
  | 9, _ => go_simp; try rfl
theorem strL_push (x : UInt8) (l : List UInt8) : (⟨#[x]⟩ : ByteArray) ++ strL l = strL (x :: l) := by
  unfold strL
  apply ByteArray.ext
  simp
set_option maxRecDepth 100000 in
set_option maxHeartbeats 2000000 in
theorem rdec_any (x : Nat) (w : World) (hx : x < 18446744073709551616) :
    Calls Tryz.prog 71 #[.int .u64 (x : Int)] w fun e w' => e = .returned (.string (strL (decDigits x))) ∧ w = w' := by
  obtain ⟨L, hL⟩ : ∃ L, L = decDigits x := ⟨_, rfl⟩
  rw [← hL]
  have HL : Hid (L = decDigits x ++ []) := by show _ = _; rw [hL]; simp
  have he : (⟨#[]⟩ : ByteArray) = strL [] := rfl
  clear hL
  go_enter Tryz.func71, Tryz.ntmps71
  go_wp2_with fail
  go_loop [0, 3] (fun v s => ∃ (a : Nat) (suf : List UInt8), v = .int .u64 (a : Int) ∧ s = .string (strL suf) ∧ a < 18446744073709551616 ∧ Hid (a < 10 ^ (20 - suf.length)) ∧ Hid (suf.length < 20) ∧ Hid (L = decDigits a ++ suf)) (fun v _ => (intOf v).toNat)
  case atStart => exact ⟨x, [], rfl, rfl, hx, (by show x < 100000000000000000000; omega), (by show 0 < 20; decide), HL⟩
  case round =>
    obtain ⟨a, suf, rfl, rfl, ha, hpow, hsuf, hdig⟩ := hrel
    have hsz : (strL suf).size < 20 := by rw [strL_size]; exact hsuf.out
    obtain ⟨d, hd⟩ : ∃ d : Nat, (a : Int) % 10 = (d : Int) := ⟨a % 10, by omega⟩
    have hd10 : d < 10 := by omega
    have hp := strL_push (UInt8.ofNat (48 + d)) suf
    by_cases hz : 9 < a
    · have hz1 : (9 : Int) < (a : Int) := by omega
      have hz2 : decide ((9 : Int) < (a : Int)) = true := decide_eq_true hz1
      obtain ⟨Q, hQ⟩ : ∃ Q : Nat, (a : Int) / 10 = (Q : Int) := ⟨a / 10, by omega⟩
      have hw1 : IntKind.u64.wrap ((d : Int) + 1) = (d : Int) + 1 := by rw [show IntKind.u64.wrap ((d : Int) + 1) = ((d : Int) + 1) % 18446744073709551616 from rfl]; omega
      have hcut := fun W => dig_cut d hd10 (d : Int) ((d : Int) + 1) rfl rfl W
      obtain ⟨y, hy⟩ : ∃ y, y = UInt8.ofNat (48 + d) := ⟨_, rfl⟩
      rw [← hy] at hcut hp
      have HY := Lib.hid hy
      clear hy
      go_wp2_with fail
      go_round
      case rel =>
        have hp2 := hpow.out
        have hs2 := hsuf.out
        have e1 : d = a % 10 := by omega
        have e2 : Q = a / 10 := by omega
        refine ⟨Q, y :: suf, by go_num, by first | rw [hp] | rfl, by omega, ?_, ?_, ?_⟩
        · show Q < 10 ^ (20 - (suf.length + 1))
          have e : 10 ^ (20 - suf.length) = 10 ^ (20 - (suf.length + 1)) * 10 := by rw [← Nat.pow_succ]; congr 1; omega
          rw [e] at hp2
          rw [e2]
          exact Nat.div_lt_of_lt_mul (by rw [Nat.mul_comm]; exact hp2)
        · show suf.length + 1 < 20
          rcases Nat.lt_or_ge (suf.length + 1) 20 with h | h
          · exact h
          · have : suf.length = 19 := by omega
            rw [this] at hp2
            simp at hp2
            omega
        · show L = _
          rw [hdig.out, decDigits, dif_neg (by omega), HY.out, e1, e2]
          simp
      case measure => simp [intOf]; omega
    · have hz2 : decide ((9 : Int) < (a : Int)) = false := decide_eq_false (by omega)
      have hz3 : ¬ (9 : Int) < (a : Int) := by omega
      have e1 : d = a := by omega
      have hw1 : IntKind.u64.wrap ((a : Int) + 1) = (a : Int) + 1 := by rw [show IntKind.u64.wrap ((a : Int) + 1) = ((a : Int) + 1) % 18446744073709551616 from rfl]; omega
      have hcut := fun W => dig_cut a (by omega) (a : Int) ((a : Int) + 1) rfl rfl W
      rw [e1] at hp
      have hfin : Hid (UInt8.ofNat (48 + a) :: suf = L) := by show _ = _; rw [hdig.out, decDigits, dif_pos (by omega)]; rfl
      clear hd e1
      obtain ⟨y, hy⟩ : ∃ y, y = UInt8.ofNat (48 + a) := ⟨_, rfl⟩
      rw [← hy] at hcut hp hfin
      clear hy
      go_wp2_with fail
      go_ret
      exact ⟨by rw [← hfin.out, ← hp]; rfl, rfl⟩
end Go.Proofs.YtlecbblmaadpiaaGreatDoor
/- What Text of layer 4's reference returns. (Made by gen/RfG.py.) -/
namespace Go.Proofs.YtlecbblmaadpiaaGreatDoor
open Go.RowKit
open Go.Lib (decDigits)
set_option maxRecDepth 100000 in
set_option maxHeartbeats 4000000 in
theorem rtextE_any (sc : Int) (s : ByteArray) (n v : Nat) (w : World) (hs : s.size ≤ 140737488355328) (hn : n < 18446744073709551616) (hv : v < 18446744073709551616) :
    Calls Tryz.prog 21 #[epdV sc s n v] w fun e w' => e = .returned (.string (strL (textE (ep sc s n v)))) ∧ Below w.heap.size w w' := by
  have C1 := Lib.hid (fun W => rcheckE_any sc s n v W hs)
  have C2 := Lib.hid (fun W => rdec_any n W hn)
  have C3 := Lib.hid (fun W => rdec_any v W hv)
  have hbe : s.toList.isEmpty = s.data.toList.isEmpty := by rw [Lib.toList_data]
  cases hc : checkB (ep sc s n v) with
  | false =>
    have ht : textE (ep sc s n v) = [] := by unfold textE; rw [if_pos hc]
    rw [ht]
    rw [hc] at C1
    clear hc ht hbe
    unfold epdV at *
    go_enter Tryz.func21, Tryz.ntmps21
    go_wp2_with fail
    refine (C1.out _).mono ?_
    rintro e w1 ⟨rfl, hb⟩
    have HB := Lib.hid hb
    clear hb
    go_wp2_with fail
    go_ret
    exact ⟨rfl, ((Below.refl _ _).alloc (Nat.le_refl _) _).trans (HB.out.mono (le_alloc _ _))⟩
  | true =>
    rw [hc] at C1
    by_cases h1 : sc = 1
    · subst h1
      obtain ⟨hn0, hv0, hnm⟩ := check_dtn hc rfl
      have hs64 : s.size ≤ 64 := by
        rw [ep_name] at hnm
        rw [Lib.size_eq]
        rcases hnm with h | h
        · rw [h]; simp
        · obtain ⟨r, -, -, -, -, h⟩ := name_head h; exact h
      by_cases he : s.data.toList = []
      · have ht := textE_none hc rfl (show (ep 1 s n v).name = [] from he)
        rw [ht]
        rw [he] at hbe
        have hbe2 : s.toList.isEmpty = true := hbe
        clear hc ht hn0 hv0 hnm hbe
        unfold epdV at *
        go_enter Tryz.func21, Tryz.ntmps21
        go_wp2_with fail
        refine (C1.out _).mono ?_
        rintro e w1 ⟨rfl, hb⟩
        have g1 := box_cells4 hb
        have HB := Lib.hid hb
        clear hb
        obtain ⟨g10, g11, g12, g13⟩ := g1
        go_wp2_with fail
        go_ret
        exact ⟨rfl, ((Below.refl _ _).alloc (Nat.le_refl _) _).trans (HB.out.mono (le_alloc _ _))⟩
      · have ht := textE_dtn hc rfl (show (ep 1 s n v).name ≠ [] from he)
        have eR : (⟨#[100, 116, 110, 58]⟩ : ByteArray) ++ s = strL (dtnL ++ s.data.toList) := by
          rw [← strL_app, strL_data]; rfl
        rw [ht, ep_name, ← eR]
        have hbe2 : s.toList.isEmpty = false := by rw [hbe]; cases hh : s.data.toList with | nil => exact absurd hh he | cons a l => rfl
        clear hc ht hn0 hv0 hnm eR he hbe
        unfold epdV at *
        go_enter Tryz.func21, Tryz.ntmps21
        go_wp2_with fail
        refine (C1.out _).mono ?_
        rintro e w1 ⟨rfl, hb⟩
        have g1 := box_cells4 hb
        have HB := Lib.hid hb
        clear hb
        obtain ⟨g10, g11, g12, g13⟩ := g1
        go_wp2_with fail
        go_ret
        exact ⟨rfl, ((Below.refl _ _).alloc (Nat.le_refl _) _).trans (HB.out.mono (le_alloc _ _))⟩
    · obtain ⟨h2, hnm, -, -, -⟩ := check_ipn hc h1
      have h2' : sc = 2 := h2
      subst h2'
      have ht := textE_ipn hc rfl
      have l1 := nd20 n hn
      have l2 := nd20 v hv
      have eR : ((⟨#[105, 112, 110, 58]⟩ : ByteArray) ++ strL (decDigits n) ++ ⟨#[46]⟩) ++ strL (decDigits v) = strL (ipnL ++ (decDigits n ++ (46 :: decDigits v))) := by
        rw [show (⟨#[105, 112, 110, 58]⟩ : ByteArray) = strL ipnL from rfl, show (⟨#[46]⟩ : ByteArray) = strL [46] from rfl, strL_app, strL_app, strL_app]
        congr 1
        simp
      have s1 : (strL (decDigits n)).size ≤ 20 := by rw [strL_size]; exact l1
      have s2 : (strL (decDigits v)).size ≤ 20 := by rw [strL_size]; exact l2
      rw [ht, show (ep 2 s n v).node = n from rfl, show (ep 2 s n v).service = v from rfl, ← eR]
      generalize strL (decDigits n) = N at *
      generalize strL (decDigits v) = V at *
      have f1 : ¬ 9223372036854775807 < 4 + N.size := by omega
      have f2 : ¬ 9223372036854775807 < 4 + N.size + 1 := by omega
      have f3 : ¬ 9223372036854775807 < 4 + N.size + 1 + V.size := by omega
      clear hc ht hnm h1 h2 l1 l2 eR hbe
      unfold epdV at *
      go_enter Tryz.func21, Tryz.ntmps21
      go_wp2_with fail
      refine (C1.out _).mono ?_
      rintro e w1 ⟨rfl, hb⟩
      have g1 := box_cells4 hb
      have HB := Lib.hid hb
      clear hb
      obtain ⟨g10, g11, g12, g13⟩ := g1
      go_wp2_with fail
      refine wp_region_held_drew (S := fun W => W = w1.drew) (by kernel_rfl) rfl (fun hHeld => ?_)
      refine takeR (i := 0) (v := ?v0_1) rfl (by kernel_rfl) (by kernel_rfl) (by kernel_rfl) (fun _ _ _ h => h) (by rfl) ?hy0_1 (by assumption) ?rest0_1
      case hy0_1 => (intro W hSw; subst hSw; have g10 : w1.drew.cell? _ = _ := g10; have g11 : w1.drew.cell? _ = _ := g11; have g12 : w1.drew.cell? _ = _ := g12; have g13 : w1.drew.cell? _ = _ := g13; go_simp; try with_reducible rfl)
      try simp only [Act.put]
      try simp only [List.setIfInBounds_toArray]
      try simp only [List.set_cons_succ]
      try simp only [List.set_cons_zero]
      refine takeR (i := 1) (v := ?v1_2) rfl (by kernel_rfl) (by kernel_rfl) (by kernel_rfl) (fun _ _ _ h => h) (by rfl) ?hy1_2 (by assumption) ?rest1_2
      case hy1_2 => (intro W hSw; subst hSw; have g10 : w1.drew.cell? _ = _ := g10; have g11 : w1.drew.cell? _ = _ := g11; have g12 : w1.drew.cell? _ = _ := g12; have g13 : w1.drew.cell? _ = _ := g13; go_simp; try with_reducible rfl)
      try simp only [Act.put]
      try simp only [List.setIfInBounds_toArray]
      try simp only [List.set_cons_succ]
      try simp only [List.set_cons_zero]
      refine takeR (i := 5) (v := ?v5_3) rfl (by kernel_rfl) (by kernel_rfl) (by kernel_rfl) (fun _ _ _ h => h) (by rfl) ?hy5_3 (by assumption) ?rest5_3
      case hy5_3 => (intro W hSw; subst hSw; have g10 : w1.drew.cell? _ = _ := g10; have g11 : w1.drew.cell? _ = _ := g11; have g12 : w1.drew.cell? _ = _ := g12; have g13 : w1.drew.cell? _ = _ := g13; go_simp; try with_reducible rfl)
      try simp only [Act.put]
      try simp only [List.setIfInBounds_toArray]
      try simp only [List.set_cons_succ]
      try simp only [List.set_cons_zero]
      refine takeR (i := 6) (v := ?v6_4) rfl (by kernel_rfl) (by kernel_rfl) (by kernel_rfl) (fun _ _ _ h => h) (by rfl) ?hy6_4 (by assumption) ?rest6_4
      case hy6_4 => (intro W hSw; subst hSw; have g10 : w1.drew.cell? _ = _ := g10; have g11 : w1.drew.cell? _ = _ := g11; have g12 : w1.drew.cell? _ = _ := g12; have g13 : w1.drew.cell? _ = _ := g13; go_simp; try with_reducible rfl)
      try simp only [Act.put]
      try simp only [List.setIfInBounds_toArray]
      try simp only [List.set_cons_succ]
      try simp only [List.set_cons_zero]
      refine wpAnyH_ready (rs := [2]) (by kernel_rfl) (by simp) ?_
      refine AllReadyH.cons rfl (fun K hK => ?_) AllReadyH.nil
      rw [if_pos (by rfl)]
      go_simp
      refine (C2.out _).mono ?_
      rintro e wq ⟨rfl, rfl⟩
      go_simp
      refine hK.out _ _ rfl (fun hHeld => ?_)
      try simp only [Act.put]
      try simp only [List.setIfInBounds_toArray]
      try simp only [List.set_cons_succ]
      try simp only [List.set_cons_zero]
      clear hK K
      refine takeR (i := 3) (v := ?v3_5) rfl (by kernel_rfl) (by kernel_rfl) (by kernel_rfl) (fun _ _ _ h => h) (by rfl) ?hy3_5 (by assumption) ?rest3_5
      case hy3_5 => (intro W hSw; subst hSw; go_simp; try with_reducible rfl)
      try simp only [Act.put]
      try simp only [List.setIfInBounds_toArray]
      try simp only [List.set_cons_succ]
      try simp only [List.set_cons_zero]
      refine takeR (i := 4) (v := ?v4_6) rfl (by kernel_rfl) (by kernel_rfl) (by kernel_rfl) (fun _ _ _ h => h) (by rfl) ?hy4_6 (by assumption) ?rest4_6
      case hy4_6 => (intro W hSw; subst hSw; go_simp; try with_reducible rfl)
      try simp only [Act.put]
      try simp only [List.setIfInBounds_toArray]
      try simp only [List.set_cons_succ]
      try simp only [List.set_cons_zero]
      refine wpAnyH_ready (rs := [7]) (by kernel_rfl) (by simp) ?_
      refine AllReadyH.cons rfl (fun K hK => ?_) AllReadyH.nil
      rw [if_pos (by rfl)]
      go_simp
      refine (C3.out _).mono ?_
      rintro e wq ⟨rfl, rfl⟩
      go_simp
      refine hK.out _ _ rfl (fun hHeld => ?_)
      try simp only [Act.put]
      try simp only [List.setIfInBounds_toArray]
      try simp only [List.set_cons_succ]
      try simp only [List.set_cons_zero]
      clear hK K
      refine takeR (i := 8) (v := ?v8_7) rfl (by kernel_rfl) (by kernel_rfl) (by kernel_rfl) (fun _ _ _ h => h) (by rfl) ?hy8_7 (by assumption) ?rest8_7
      case hy8_7 => (intro W hSw; subst hSw; go_simp; try with_reducible rfl)
      try simp only [Act.put]
      try simp only [List.setIfInBounds_toArray]
      try simp only [List.set_cons_succ]
      try simp only [List.set_cons_zero]
      refine takeR (i := 9) (v := ?v9_8) rfl (by kernel_rfl) (by kernel_rfl) (by kernel_rfl) (fun _ _ _ h => h) (by rfl) ?hy9_8 (by assumption) ?rest9_8
      case hy9_8 => (intro W hSw; subst hSw; go_simp; try with_reducible rfl)
      try simp only [Act.put]
      try simp only [List.setIfInBounds_toArray]
      try simp only [List.set_cons_succ]
      try simp only [List.set_cons_zero]
      refine wpAnyH_done (by kernel_rfl) ?_ _
      go_wp2_with fail
      go_ret
      exact ⟨rfl, ((Below.refl _ _).alloc (Nat.le_refl _) _).trans (HB.out.drew.mono (le_alloc _ _))⟩
end Go.Proofs.YtlecbblmaadpiaaGreatDoor
/- What Check and items of layer 5's reference return. (Made by gen/BlkW1.py.) -/
namespace Go.Proofs.YtlecbblmaadpiaaGreatDoor
open Go.RowKit
set_option maxRecDepth 100000 in
set_option maxHeartbeats 1000000 in
theorem ruintV (n : Int) (w : World) :
    Calls Tryz.prog 44 #[.int .u64 n] w fun e w' => e = .returned (.agg #[.int .i64 0, .int .u64 n, .slice none 0 0, .slice none 0 0]) ∧ Below w.heap.size w w' := by
  go_enter Tryz.func44, Tryz.ntmps44
  go_wp2_with fail
  exact bodyPost_ret (v := .agg #[.int .i64 0, .int .u64 n, .slice none 0 0, .slice none 0 0]) (by simp [results, Tryz.results44, go_sem]) rfl ⟨rfl, (Below.refl _ _).alloc (Nat.le_refl _) _⟩
theorem RdIs.unmask {S : Nat → Bool} {w : World} {B b o : Nat} {l : List Itm} (hb : b < B) (h : RdIs (mask S w) B b o l) : RdIs w B b o l := h.sub (Nat.le_refl _) (fun _ _ _ hc => mask_sub hc) hb
end Go.Proofs.YtlecbblmaadpiaaGreatDoor
