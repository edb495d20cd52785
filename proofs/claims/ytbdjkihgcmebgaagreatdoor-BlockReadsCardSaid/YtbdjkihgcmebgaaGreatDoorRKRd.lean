/- The reader of layer 3: its state in memory, and what its small calls return. The reader of layer 3: take, and what reads items without a list. -/
import Derived.Test.YtbdjkihgcmebgaaGreatDoorRCborV
import Derived.Test.YtbdjkihgcmebgaaGreatDoorRKFits
import Derived.Test.YtbdjkihgcmebgaaGreatDoorRKHead
import Derived.Test.YtbdjkihgcmebgaaGreatDoorRKMake
import Derived.Test.YtbdjkihgcmebgaaGreatDoorRNumG
namespace Go.Proofs.YtbdjkihgcmebgaaGreatDoor
open Go.RowKit

/-- Block g is a reader of the bytes bs, which lie below it: i of them read, p items begun, d arrays open. -/
structure RSt (w : World) (g : Nat) (A : Option Addr) (n c : Nat) (bs : List UInt8) (i p d : Nat) : Prop where
  c0 : w.cell? ⟨g, 0, none⟩ = some (.slice A n c)
  c1 : w.cell? ⟨g, 1, none⟩ = some (.int .i64 (i : Int))
  c2 : w.cell? ⟨g, 2, none⟩ = some (.int .i64 (p : Int))
  c3 : w.cell? ⟨g, 3, none⟩ = some (.int .i64 (d : Int))
  f1 : w.frozen? ⟨g, 1, none⟩ = false
  f2 : w.frozen? ⟨g, 2, none⟩ = false
  f3 : w.frozen? ⟨g, 3, none⟩ = false
  rd : Rd w g A n bs
  hi : i ≤ n
  hn : n ≤ 140737488355328
  hc : n ≤ c
section
variable {w w' : World} {g n c i p d : Nat} {A : Option Addr} {bs : List UInt8}
theorem RSt.lt (h : RSt w g A n c bs i p d) : g < w.heap.size := World.block_lt_of_cell? w ⟨g, 0, none⟩ h.c0
theorem RSt.below {B : Nat} (h : RSt w g A n c bs i p d) (hb : Below B w w') (hg : g < B) : RSt w' g A n c bs i p d :=
  ⟨(hb.cell (p := ⟨g, 0, none⟩) hg).trans h.c0, (hb.cell (p := ⟨g, 1, none⟩) hg).trans h.c1, (hb.cell (p := ⟨g, 2, none⟩) hg).trans h.c2, (hb.cell (p := ⟨g, 3, none⟩) hg).trans h.c3,
    (hb.frozen (p := ⟨g, 1, none⟩) hg).trans h.f1, (hb.frozen (p := ⟨g, 2, none⟩) hg).trans h.f2, (hb.frozen (p := ⟨g, 3, none⟩) hg).trans h.f3, h.rd.keep fun _ hq => hb.cell (Nat.lt_trans hq hg), h.hi, h.hn, h.hc⟩
theorem RSt.alloc (h : RSt w g A n c bs i p d) (o : Obj) : RSt (w.alloc o) g A n c bs i p d := h.below ((Below.refl _ _).alloc (Nat.le_refl _) o) h.lt
theorem RSt.drew (h : RSt w g A n c bs i p d) : RSt w.drew g A n c bs i p d := ⟨h.c0, h.c1, h.c2, h.c3, h.f1, h.f2, h.f3, h.rd, h.hi, h.hn, h.hc⟩
theorem cell_set_ne {w : World} {g j k : Nat} {v u : Value} (h : j ≠ k) (hc : w.cell? ⟨g, k, none⟩ = some u) : (w.setCell ⟨g, j, none⟩ v).cell? ⟨g, k, none⟩ = some u := by
  rw [World.cell?_setCell_other _ _ _ _ (fun e => by injection e with _ e2; exact h e2)]
  exact hc
theorem Rd.setg {v : Value} {j : Nat} (h : Rd w g A n bs) : Rd (w.setCell ⟨g, j, none⟩ v) g A n bs :=
  h.keep fun q hq => World.cell?_setCell_far _ _ _ _ (by show g ≠ q.block; omega)
theorem RSt.set1 (h : RSt w g A n c bs i p d) {z : Int} (i' : Nat) (hz : z = (i' : Int)) (hi : i' ≤ n) : RSt (w.setCell ⟨g, 1, none⟩ (.int .i64 z)) g A n c bs i' p d := by
  subst hz
  exact ⟨cell_set_ne (by decide) h.c0, World.cell?_setCell_same _ _ _ h.c1, cell_set_ne (by decide) h.c2, cell_set_ne (by decide) h.c3, by simpa using h.f1, by simpa using h.f2, by simpa using h.f3, h.rd.setg, hi, h.hn, h.hc⟩
theorem RSt.set2 (h : RSt w g A n c bs i p d) {z : Int} (p' : Nat) (hz : z = (p' : Int)) : RSt (w.setCell ⟨g, 2, none⟩ (.int .i64 z)) g A n c bs i p' d := by
  subst hz
  exact ⟨cell_set_ne (by decide) h.c0, cell_set_ne (by decide) h.c1, World.cell?_setCell_same _ _ _ h.c2, cell_set_ne (by decide) h.c3, by simpa using h.f1, by simpa using h.f2, by simpa using h.f3, h.rd.setg, h.hi, h.hn, h.hc⟩
theorem RSt.set3 (h : RSt w g A n c bs i p d) {z : Int} (d' : Nat) (hz : z = (d' : Int)) : RSt (w.setCell ⟨g, 3, none⟩ (.int .i64 z)) g A n c bs i p d' := by
  subst hz
  exact ⟨cell_set_ne (by decide) h.c0, cell_set_ne (by decide) h.c1, cell_set_ne (by decide) h.c2, World.cell?_setCell_same _ _ _ h.c3, by simpa using h.f1, by simpa using h.f2, by simpa using h.f3, h.rd.setg, h.hi, h.hn, h.hc⟩
/-- The byte that comes. -/
theorem RSt.byte (h : RSt w g A n c bs i p d) (hl : i < n) : ∃ (b o : Nat) (x : UInt8), A = some ⟨b, o, none⟩ ∧ w.cell? ⟨b, o + i, none⟩ = some (.int .u8 (x.toNat : Int)) ∧ bs.drop i = x :: bs.drop (i + 1) ∧ b < g := by
  obtain ⟨b, o, e, hb, hc⟩ := h.rd.2 (by omega)
  have hlen := h.rd.1
  refine ⟨b, o, bs.getD i 0, e, hc i hl, ?_, hb⟩
  rw [List.drop_eq_getElem_cons (by omega)]
  simp [List.getD, show i < bs.length by omega]
end

theorem below_drewN (B : Nat) (w : World) (k : Nat) : Below B w (w.drewN k) := ⟨rfl, rfl, rfl, Nat.le_refl _, fun _ _ => rfl⟩

set_option maxRecDepth 100000 in
set_option maxHeartbeats 1000000 in
theorem left_q {w : World} {g n c i p d : Nat} {A : Option Addr} {bs : List UInt8} (h : RSt w g A n c bs i p d) :
    Calls Tryz.prog 76 #[.pointer (some ⟨g, 0, none⟩)] w fun e w' => e = .returned (.int .u64 ((n - i : Nat) : Int)) ∧ ∃ m, w' = w.drewN m := by
  have g0 := h.c0
  have g1 := h.c1
  have hi := h.hi
  have hn := h.hn
  clear h
  have e : (n : Int) - (i : Int) = ((n - i : Nat) : Int) := by omega
  go_enter Tryz.func76, Tryz.ntmps76
  go_wp2_with fail
  go_quiet (fail)
  go_wp2_with fail
  go_ret
  exact ⟨rfl, nq, rfl⟩
theorem left_any {w : World} {g n c i p d : Nat} {A : Option Addr} {bs : List UInt8} (h : RSt w g A n c bs i p d) :
    Calls Tryz.prog 76 #[.pointer (some ⟨g, 0, none⟩)] w fun e w' => e = .returned (.int .u64 ((n - i : Nat) : Int)) ∧ Below w.heap.size w w' :=
  (left_q h).mono fun _ _ ⟨h1, _, h2⟩ => ⟨h1, h2 ▸ below_drewN _ _ _⟩
theorem RSt.drewN {w : World} {g n c i p d : Nat} {A : Option Addr} {bs : List UInt8} (h : RSt w g A n c bs i p d) (k : Nat) : RSt (w.drewN k) g A n c bs i p d := h.below (below_drewN _ _ _) h.lt

theorem and31 (X : Nat) (hx : X < 256) : bits BinOp.and IntKind.u8 (X : Int) 31 = ((X % 32 : Nat) : Int) := by
  have h := u8_and_nat X 31 hx (by decide)
  rw [show X &&& 31 = X % 32 from Nat.and_two_pow_sub_one_eq_mod X 5] at h
  exact h

set_option maxRecDepth 100000 in
set_option maxHeartbeats 1000000 in
theorem begins_any (x : UInt8) (w : World) :
    Calls Tryz.prog 51 #[.int .u8 (x.toNat : Int)] w fun e w' => e = .returned (.bool (arrB x)) ∧ w = w' := by
  have hx := x.toNat_lt
  have ha : arrB x = decide (x.toNat = 159 ∨ (x.toNat / 32 = 4 ∧ x.toNat % 32 ≤ 27)) := by
    unfold arrB
    have e : (x == 159) = decide (x.toNat = 159) := by
      by_cases h : x = 159
      · subst h; rfl
      · have : x.toNat ≠ 159 := fun e => h (UInt8.toNat_inj.1 e)
        simp [h, this]
    rw [e]
    have e2 : (x.toNat / 32 == 4) = decide (x.toNat / 32 = 4) := by by_cases h : x.toNat / 32 = 4 <;> simp [h]
    rw [e2]
    simp [Bool.decide_or, Bool.decide_and]
  obtain ⟨R, hR⟩ : ∃ q, q = arrB x := ⟨_, rfl⟩
  rw [← hR]
  rw [ha] at hR
  generalize x.toNat = X at *
  have HR := Lib.hid hR
  clear ha hR
  have hb := and31 X hx
  by_cases hk : X / 32 = 4
  · have hk2 : ((X : Int) / 32 != 4) = false := by simp; omega
    by_cases hl : X % 32 ≤ 27
    · have hl2 : (X : Int) % 32 ≤ 27 := by omega
      go_enter Tryz.func51, Tryz.ntmps51
      go_wp2_with fail
      go_ret
      exact ⟨by show Ending.returned (.bool true) = _; rw [HR.out]; simp; omega, rfl⟩
    · have hl2 : 27 < (X : Int) % 32 := by omega
      go_enter Tryz.func51, Tryz.ntmps51
      go_wp2_with fail
      go_ret
      refine ⟨?_, rfl⟩
      show Ending.returned (.bool ((X : Int) == 159)) = _
      rw [HR.out]
      by_cases h9 : X = 159
      · subst h9; rfl
      · rw [beq_eq_false_iff_ne.2 (by omega), decide_eq_false (by omega)]
  · have hk2 : ((X : Int) / 32 != 4) = true := by simp; omega
    go_enter Tryz.func51, Tryz.ntmps51
    go_wp2_with fail
    go_ret
    exact ⟨by show Ending.returned (.bool false) = _; rw [HR.out]; simp; omega, rfl⟩

/-- What reads an item behind a head that begins so. -/
def behV (x : UInt8) (g : Nat) : Value :=
  if 27 < x.toNat % 32 then .nilFunc else if x.toNat / 32 = 0 then .func (.func 77) #[.pointer (some ⟨g, 0, none⟩)] #[] else if x.toNat / 32 = 2 then .func (.func 78) #[.pointer (some ⟨g, 0, none⟩)] #[]
  else if x.toNat / 32 = 3 then .func (.func 79) #[.pointer (some ⟨g, 0, none⟩)] #[] else if x.toNat / 32 = 4 then .func (.func 80) #[.pointer (some ⟨g, 0, none⟩)] #[] else .nilFunc

set_option maxRecDepth 100000 in
set_option maxHeartbeats 1000000 in
theorem behind_any (x : UInt8) (g : Nat) (w : World) :
    Calls Tryz.prog 53 #[.pointer (some ⟨g, 0, none⟩), .int .u8 (x.toNat : Int)] w fun e w' => e = .returned (behV x g) ∧ w = w' := by
  have hx := x.toNat_lt
  unfold behV
  generalize x.toNat = X at *
  have hb := and31 X hx
  have hmf : ∀ (fn : Fn) (first cap : Array Value) (w : World), (Instr.makeFunc fn first cap).run Tryz.prog w = .ok (.func fn first cap) w := fun _ _ _ _ => rfl
  by_cases hl : 27 < X % 32
  · rw [if_pos hl]
    go_enter Tryz.func53, Tryz.ntmps53
    go_wp2_with fail
    go_ret
    exact ⟨rfl, rfl⟩
  rw [if_neg hl]
  by_cases h0 : X / 32 = 0
  · rw [if_pos h0]
    have k0 : ((X : Int) / 32 == 0) = true := by simp; omega
    go_enter Tryz.func53, Tryz.ntmps53
    go_wp2_with fail
    go_ret
    exact ⟨rfl, rfl⟩
  rw [if_neg h0]
  have k0 : ((X : Int) / 32 == 0) = false := by simp; omega
  by_cases h2 : X / 32 = 2
  · rw [if_pos h2]
    have k2 : ((X : Int) / 32 == 2) = true := by simp; omega
    go_enter Tryz.func53, Tryz.ntmps53
    go_wp2_with fail
    go_ret
    exact ⟨rfl, rfl⟩
  rw [if_neg h2]
  have k2 : ((X : Int) / 32 == 2) = false := by simp; omega
  by_cases h3 : X / 32 = 3
  · rw [if_pos h3]
    have k3 : ((X : Int) / 32 == 3) = true := by simp; omega
    go_enter Tryz.func53, Tryz.ntmps53
    go_wp2_with fail
    go_ret
    exact ⟨rfl, rfl⟩
  rw [if_neg h3]
  have k3 : ((X : Int) / 32 == 3) = false := by simp; omega
  by_cases h4 : X / 32 = 4
  · rw [if_pos h4]
    have k4 : ((X : Int) / 32 == 4) = true := by simp; omega
    go_enter Tryz.func53, Tryz.ntmps53
    go_wp2_with fail
    go_ret
    exact ⟨rfl, rfl⟩
  rw [if_neg h4]
  have k4 : ((X : Int) / 32 == 4) = false := by simp; omega
  go_enter Tryz.func53, Tryz.ntmps53
  go_wp2_with fail
  go_ret
  exact ⟨rfl, rfl⟩

/-- 'b[i:e:e]'. -/
theorem cut_3 {w : World} {B n i e : Nat} {A : Option Addr} {l : List UInt8} (c : Nat) (h : Rd w B A n l) (hi : i ≤ e) (he : e ≤ n) (hc : n ≤ c) (_hn : n ≤ 140737488355328) :
    ∃ A', (∀ W : World, (Instr.slice 22 (.slice A n c) (some (.int .i64 (i : Int))) (some (.int .i64 (e : Int))) (some (.int .i64 (e : Int)))).run Tryz.prog W = .ok (.slice A' (e - i) (e - i)) W) ∧ Rd w B A' (e - i) ((l.drop i).take (e - i)) := by
  have hz := size_u8
  have ht := Tryz.underlying22
  have hl := h.1
  by_cases hck : e = i
  · subst hck
    refine ⟨A, fun W => ?_, ?_⟩
    · go_simp
      intro hh
      omega
    · rw [Nat.sub_self, List.take_zero]; exact Rd.nil_
  · refine ⟨A.map (·.add i), fun W => ?_, h.cut.take (by omega)⟩
    go_simp
    intro hh
    omega

/-- What stands for no item; a fault. -/
def noItem : Value := .agg #[.int .i64 0, .int .u64 0, .slice none 0 0, .slice none 0 0]
def flt (z : Int) : Value := .iface 107 (.agg #[.int .i64 z])
/-- A call of the reader gives back an item in new memory and has read on, or a fault. -/
def GivesR (g : Nat) (A : Option Addr) (n c : Nat) (bs : List UInt8) (d : Nat) (r : Except Int (Itm × Nat × List UInt8)) (w : World) (e : Ending) (w' : World) : Prop :=
  match r with
  | .error z => e = .returned (.tuple #[noItem, flt z]) ∧ Only g w w'
  | .ok (x, p', l') => ∃ v i', e = .returned (.tuple #[v, .nilIface]) ∧ RdI (mask (lows w.heap.size) w') w'.heap.size v x ∧ RSt w' g A n c bs i' p' d ∧ bs.drop i' = l' ∧ Only g w w'

section
variable {w : World} {g n c i p d : Nat} {A : Option Addr} {bs : List UInt8}
set_option maxRecDepth 100000 in
set_option maxHeartbeats 1000000 in
theorem take_short (h : RSt w g A n c bs i p d) (k : Nat) (hk : n - i < k) :
    Calls Tryz.prog 81 #[.pointer (some ⟨g, 0, none⟩), .int .u64 (k : Int)] w fun e w' => e = .returned (.tuple #[.slice none 0 0, flt 30]) ∧ Below w.heap.size w w' := by
  have C1 := Lib.hid (left_any h)
  clear h
  go_enter Tryz.func81, Tryz.ntmps81
  go_wp2_with fail
  refine C1.out.mono ?_
  rintro e w1 ⟨rfl, hb⟩
  have HB := Lib.hid hb
  clear hb
  generalize n - i = m at *
  go_wp2_with fail
  go_ret2
  exact ⟨rfl, HB.out⟩

set_option maxRecDepth 100000 in
set_option maxHeartbeats 1000000 in
theorem take_ok (h : RSt w g A n c bs i p d) (k : Nat) (hk : k ≤ n - i) :
    Calls Tryz.prog 81 #[.pointer (some ⟨g, 0, none⟩), .int .u64 (k : Int)] w fun e w' => ∃ A', e = .returned (.tuple #[.slice A' k k, .nilIface]) ∧ Rd w' g A' k ((bs.drop i).take k) ∧ RSt w' g A n c bs (i + k) p d ∧ Only g w w' := by
  have C1 := Lib.hid (left_any h)
  have hi := h.hi
  have hn := h.hn
  obtain ⟨A', hrun, hrd⟩ := cut_3 c h.rd (Nat.le_add_right i k) (by omega) h.hc h.hn
  rw [Nat.add_sub_cancel_left] at hrun hrd
  have HRUN := Lib.hid hrun
  have HRD := Lib.hid hrd
  have HR := Lib.hid h
  clear hrun hrd h
  go_enter Tryz.func81, Tryz.ntmps81
  go_wp2_with fail
  refine C1.out.mono ?_
  rintro e w1 ⟨rfl, hb⟩
  have HS := Lib.hid (HR.out.below hb HR.out.lt)
  have HB := Lib.hid hb
  have g0 := HS.out.c0
  have g1 := HS.out.c1
  have f1 := HS.out.f1
  have hrun := HRUN.out
  have e1 : ((i : Int) + (k : Int)) = ((i + k : Nat) : Int) := by omega
  have hki : (k : Int) ≤ ((n - i : Nat) : Int) := by omega
  clear hb
  rw [← e1] at hrun
  clear e1
  go_wp2_with fail
  go_quiet (fail)
  have g1' : (w1.drewN nq).cell? ⟨g, 1, none⟩ = some (.int .i64 (i : Int)) := g1
  have f1' : (w1.drewN nq).frozen? ⟨g, 1, none⟩ = false := f1
  go_wp2_with fail
  go_ret2
  have hs : RSt (w1.drewN nq) g A n c bs i p d := HS.out.below (below_drewN _ _ _) HS.out.lt
  exact ⟨A', rfl, (HRD.out.keep fun q hq => (HB.out.mono (Nat.le_of_lt HR.out.lt)).cell hq).keep fun q hq => by rw [World.cell?_setCell_far _ _ _ _ (by show g ≠ q.block; omega)]; rfl,
    hs.set1 (i + k) (by omega) (by omega), ((Only.of_below HB.out).trans (Only.of_below (below_drewN _ _ _))).setCell (by rfl) _⟩

/-- Four stores into one block. -/
def set4 (w : World) (b : Nat) (u0 u1 u2 u3 : Value) : World := (((w.setCell ⟨b, 0, none⟩ u0).setCell ⟨b, 1, none⟩ u1).setCell ⟨b, 2, none⟩ u2).setCell ⟨b, 3, none⟩ u3
theorem set4_heap {b k : Nat} {u0 u1 u2 u3 : Value} (h : k ≠ b) : (set4 w b u0 u1 u2 u3).heap[k]? = w.heap[k]? := by
  unfold set4
  rw [Below.heap_setCell _ _ _ _ h, Below.heap_setCell _ _ _ _ h, Below.heap_setCell _ _ _ _ h, Below.heap_setCell _ _ _ _ h]
theorem set4_size {b : Nat} {u0 u1 u2 u3 : Value} : (set4 w b u0 u1 u2 u3).heap.size = w.heap.size := by simp [set4, World.setCell]
theorem set4_below {w0 : World} {B b : Nat} {u0 u1 u2 u3 : Value} (h : Below B w0 w) (hb : B ≤ b) : Below B w0 (set4 w b u0 u1 u2 u3) := below_set4 h hb
theorem set4_only {w0 : World} {b : Nat} {u0 u1 u2 u3 : Value} (h : Only g w0 w) (hb : w0.heap.size ≤ b) : Only g w0 (set4 w b u0 u1 u2 u3) :=
  ⟨h.os, h.tape, h.output, by rw [set4_size]; exact h.size, fun k hk hg => (set4_heap (by omega)).trans (h.block k hk hg)⟩
theorem RSt.set4 {b : Nat} {u0 u1 u2 u3 : Value} (h : RSt w g A n c bs i p d) (hb : g < b) : RSt (set4 w b u0 u1 u2 u3) g A n c bs i p d :=
  h.below (B := b) (set4_below (Below.refl _ _) (Nat.le_refl _)) hb
/-- What reads in new memory is kept by four stores ahead of it. -/
theorem RdI.fin {b lo lo' : Nat} {u0 u1 u2 u3 v : Value} {x : Itm} {B : Nat} (h : RdI (mask (lows lo) w) B v x) (hB : B ≤ w.heap.size) (hb : b < lo) (hl : lo' ≤ lo) : RdI (mask (lows lo') (Go.Proofs.YtbdjkihgcmebgaaGreatDoor.set4 w b u0 u1 u2 u3)) (Go.Proofs.YtbdjkihgcmebgaaGreatDoor.set4 w b u0 u1 u2 u3).heap.size v x :=
  h.mask_go (by rw [set4_size]; exact hB) (fun k _ hk => set4_heap (by have := lows_f.1 hk; omega)) (fun k _ hk => lows_f.2 (Nat.le_trans hl (lows_f.1 hk)))
theorem Ob.news {base m cp : Nat} {t : TypeId} {A : Option Addr} {l : List UInt8} (h : Ob w base t (.slice A m cp) l) : Rd (mask (lows base) w) w.heap.size A m l := by
  obtain ⟨hl, hr, hc, hm⟩ := h.rd_
  refine ⟨hl, fun h0 => ?_⟩
  obtain ⟨gg, cap, hv, hb, hlt, _⟩ := h.form (by omega)
  injection hv with h1 h2 h3
  subst h1
  obtain ⟨b, o, e, hbb, hcell⟩ := hr.2 h0
  injection e with e
  injection e with e1 e2
  subst e1 e2
  exact ⟨gg, 0, rfl, hlt, fun j hj => (mask_cell (lows_f.2 hb)).trans (hcell j hj)⟩
/-- An item without data and without a list reads the same everywhere. -/
theorem RdI.bare {w' : World} {B B' m : Nat} {k : Int} {v : Value} (h : RdI w B v (.mk k m [] [])) : RdI w' B' v (.mk k m [] []) := by
  rw [RdI] at h ⊢
  obtain ⟨A, nd, cd, AL, nl, cl, e, h1, h2, h3, h4, h5, h6, _⟩ := h
  have hd : nd = 0 := h4.1.symm
  have hl : nl = 0 := h6.symm
  subst hd hl
  exact ⟨A, 0, cd, AL, 0, cl, e, h1, h2, h3, Rd.nil_, h5, rfl, fun h => absurd h (Nat.lt_irrefl _)⟩

/-- The result's variable, while the reader alone is turned. -/
theorem zero_only {W' : World} (h : Only g (w.alloc (.cells #[.int .i64 0, .int .u64 0, .slice none 0 0, .slice none 0 0] 42)) W') (hg : g < w.heap.size) :
    (W'.cell? ⟨w.heap.size, 0, none⟩ = some (.int .i64 0) ∧ W'.cell? ⟨w.heap.size, 1, none⟩ = some (.int .u64 0) ∧ W'.cell? ⟨w.heap.size, 2, none⟩ = some (.slice none 0 0) ∧ W'.cell? ⟨w.heap.size, 3, none⟩ = some (.slice none 0 0)) ∧
    (W'.frozen? ⟨w.heap.size, 0, none⟩ = false ∧ W'.frozen? ⟨w.heap.size, 1, none⟩ = false ∧ W'.frozen? ⟨w.heap.size, 2, none⟩ = false ∧ W'.frozen? ⟨w.heap.size, 3, none⟩ = false) := by
  have hb := h.block w.heap.size (by simp) (by omega)
  refine ⟨⟨?_, ?_, ?_, ?_⟩, ?_, ?_, ?_, ?_⟩
  · exact (World.cell?_of_block (w := w.alloc (.cells #[.int .i64 0, .int .u64 0, .slice none 0 0, .slice none 0 0] 42)) (a := ⟨w.heap.size, 0, none⟩) hb).trans (by simp)
  · exact (World.cell?_of_block (w := w.alloc (.cells #[.int .i64 0, .int .u64 0, .slice none 0 0, .slice none 0 0] 42)) (a := ⟨w.heap.size, 1, none⟩) hb).trans (by simp)
  · exact (World.cell?_of_block (w := w.alloc (.cells #[.int .i64 0, .int .u64 0, .slice none 0 0, .slice none 0 0] 42)) (a := ⟨w.heap.size, 2, none⟩) hb).trans (by simp)
  · exact (World.cell?_of_block (w := w.alloc (.cells #[.int .i64 0, .int .u64 0, .slice none 0 0, .slice none 0 0] 42)) (a := ⟨w.heap.size, 3, none⟩) hb).trans (by simp)
  · exact (World.frozen?_of_block (w := w.alloc (.cells #[.int .i64 0, .int .u64 0, .slice none 0 0, .slice none 0 0] 42)) (a := ⟨w.heap.size, 0, none⟩) hb).trans (by simp)
  · exact (World.frozen?_of_block (w := w.alloc (.cells #[.int .i64 0, .int .u64 0, .slice none 0 0, .slice none 0 0] 42)) (a := ⟨w.heap.size, 1, none⟩) hb).trans (by simp)
  · exact (World.frozen?_of_block (w := w.alloc (.cells #[.int .i64 0, .int .u64 0, .slice none 0 0, .slice none 0 0] 42)) (a := ⟨w.heap.size, 2, none⟩) hb).trans (by simp)
  · exact (World.frozen?_of_block (w := w.alloc (.cells #[.int .i64 0, .int .u64 0, .slice none 0 0, .slice none 0 0] 42)) (a := ⟨w.heap.size, 3, none⟩) hb).trans (by simp)

set_option maxRecDepth 100000 in
set_option maxHeartbeats 1000000 in
theorem uint_any (h : RSt w g A n c bs i p d) (m : Nat) (hm : m < 18446744073709551616) :
    Calls Tryz.prog 77 #[.pointer (some ⟨g, 0, none⟩), .int .u64 (m : Int)] w (GivesR g A n c bs d (.ok (.mk 0 m [] [], p, bs.drop i)) w) := by
  have C1 := Lib.hid (fun W => cuint_any m W hm)
  have HR := Lib.hid h
  clear h
  go_enter Tryz.func77, Tryz.ntmps77
  go_wp2_with fail
  refine (C1.out _).mono ?_
  rintro e w1 ⟨v, rfl, hv, hb⟩
  obtain ⟨k1, n1, A1, nd1, cd1, AL1, nl1, cl1, rfl⟩ := hv.form
  have HV := Lib.hid hv
  have hb' := to_box hb
  obtain ⟨⟨z0, z1, z2, z3⟩, f0, f1, f2, f3⟩ := zero_cells hb'
  have HB := Lib.hid (((Below.refl w.heap.size w).alloc (Nat.le_refl _) _).trans (hb'.mono (Nat.le_succ _)))
  clear hv hb hb'
  go_wp2_with fail
  refine bodyPost_ret (v := .tuple #[.agg #[.int .i64 k1, .int .u64 (n1 : Int), .slice A1 nd1 cd1, .slice AL1 nl1 cl1], .nilIface]) (by simp [results, Tryz.results77, go_sem, z0, z1, z2, z3]) rfl ?_
  exact ⟨_, i, rfl, HV.out.bare, (HR.out.below HB.out HR.out.lt).set4 HR.out.lt, rfl, set4_only (Only.of_below HB.out) (Nat.le_refl _)⟩
end
end Go.Proofs.YtbdjkihgcmebgaaGreatDoor
