/- What next of layer 7 returns: the state behind a block. -/
import Derived.Test.YtllodapnbdbpeaaShaC
import Derived.Deep.QuietTactic
namespace Go.Proofs.Ytllodapnbdbpeaa
open Go.RowKit

theorem rowIs_of {w : World} {g n : Nat} {t : TypeId} {l : List (BitVec 32)} {K : Array Value} (hK : K = (wc l).toArray) (hl : l.length = n) (hg : w.heap[g]? = some (.cells K t (0, 0))) : w.rowIs g t n (fun j => .int .u32 ((l.getD j 0).toNat : Int)) := by
  subst hK
  exact ⟨_, hg, by rw [List.size_toArray, wc_length, hl], fun i hi => wc_get l i (by omega)⟩

theorem zero8v (w : World) : (zeroValue 48).run Try.prog w = .ok (.agg (Array.replicate 8 (.int .u32 0))) w :=
  (zero_of_info (P := Try.prog) (t := 48) (v := .agg (Array.replicate 8 (.int .u32 0))) (n := 8) (by kernel_rfl)).1 w

/-- The state's row behind k sums. -/
def mixL (s r : St) (k j : Nat) : BitVec 32 := if j < k then s.list.getD j 0 + r.list.getD j 0 else s.list.getD j 0
theorem mixL_zero (s r : St) (j : Nat) : mixL s r 0 j = s.list.getD j 0 := by simp [mixL]
theorem mixL_step (s r : St) (k j : Nat) : mixL s r (k + 1) j = if j = k then s.list.getD k 0 + r.list.getD k 0 else mixL s r k j := by
  unfold mixL
  by_cases h : j = k
  · subst h; simp
  · rw [if_neg h]
    by_cases h2 : j < k
    · rw [if_pos h2, if_pos (by omega)]
    · rw [if_neg h2, if_neg (by omega)]
theorem mixL_end (s r : St) : ∀ j, j < 8 → mixL s r 8 j = (s.add r).list.getD j 0
  | 0, _ => rfl | 1, _ => rfl | 2, _ => rfl | 3, _ => rfl | 4, _ => rfl | 5, _ => rfl | 6, _ => rfl | 7, _ => rfl
  | j + 8, h => by omega

theorem wpList_allocN {P : Program} {ops : Array Oper} {rest : List Oper} {o : Oper} {a : Act} {w : World} {Q : Exit → Act → World → Prop} (hg : o.guard = none) (t : TypeId) (ho : o.op = .alloc t) (C : Array Value) (hz : ∀ w : World, (zeroValue t).run P w = .ok (.agg C) w) (N : Nat) (hN : w.heap.size = N)
    (h : wpList P ops Q rest (a.put o.dst (.pointer (some ⟨N, 0, none⟩))) (w.alloc (.cells C t))) : wpList P ops Q (o :: rest) a w := by
  subst hN
  exact wpList_allocZ hg t ho C hz h
theorem heap_lt (w : World) (o : Obj) (k : Nat) (h : k < w.heap.size) : (w.alloc o).heap[k]? = w.heap[k]? := ((Below.refl w.heap.size w).alloc (Nat.le_refl _) o).block k h
/-- A store of a whole row: what the new world is good for. -/
theorem wpList_stRow {P : Program} {ops : Array Oper} {rest : List Oper} {o : Oper} {a : Act} {w : World} {Q : Exit → Act → World → Prop} (hgd : o.guard = none) (ty : TypeId) (x y : Operand) (ho : o.op = .store ty x y)
    (g : Nat) (cells : Array Value) (hx : a.eval x = .pointer (some ⟨g, 0, none⟩)) (hy : a.eval y = .agg cells)
    (t : TypeId) (old : Array Value) (hg : w.heap[g]? = some (.cells old t (0, 0))) (hi : (P.info? ty).map (·.size) = some cells.size)
    (hold : old.size = cells.size) (h1 : cells.all (·.oneCell') = true)
    (h : ∀ W' : World, W'.heap[g]? = some (.cells cells t (0, 0)) → (∀ k, k ≠ g → W'.heap[k]? = w.heap[k]?) → (∀ (B : Nat) (w0 : World), Below B w0 w → B ≤ g → Below B w0 W') → W'.heap.size = w.heap.size → wpList P ops Q rest (a.put o.dst undef) W') :
    wpList P ops Q (o :: rest) a w :=
  wpList_store_row hgd ty x y ho g cells hx hy t old hg hi hold h1
    (h _ (setRow_heap w g old cells t _ hg) (fun k hk => setRow_other w g k _ hk) (fun _ _ hb hB => below_setRow hb hB _) (setRow_size w g _))

theorem notx (a : BitVec 32) : bits BinOp.xor .u32 IntKind.u32.max (a.toNat : Int) = ((~~~ a).toNat : Int) := by
  have e := u32_xor_nat 4294967295 a.toNat (by decide) a.isLt
  rw [show IntKind.u32.max = ((4294967295 : Nat) : Int) from rfl, e, show (4294967295 : Nat) = (BitVec.allOnes 32).toNat from rfl, ← BitVec.toNat_xor, BitVec.allOnes_xor]
theorem sumA (h t f y x u v : BitVec 32) : (((h.toNat : Int) + t.toNat + f.toNat + y.toNat + x.toNat) % 4294967296 + ((u.toNat : Int) + v.toNat) % 4294967296) % 4294967296 = ((h + t + f + y + x + (u + v)).toNat : Int) := by
  simp only [BitVec.toNat_add]
  omega
theorem sumE (d h t f y x : BitVec 32) : ((d.toNat : Int) + ((h.toNat : Int) + t.toNat + f.toNat + y.toNat + x.toNat) % 4294967296) % 4294967296 = ((d + (h + t + f + y + x)).toNat : Int) := by
  simp only [BitVec.toNat_add]
  omega
theorem iu {a b : Int} (h : a = b) : Value.int .u32 a = .int .u32 b := by rw [h]

set_option maxRecDepth 100000 in
set_option maxHeartbeats 4000000 in
theorem next_any (s : St) (A : Option Addr) (c B : Nat) (b : List UInt8) (w : World) (hr : Rd w B A 64 b) (hB : B ≤ w.heap.size) (hc : 64 ≤ c) (hc2 : c ≤ 9223372036854775807) :
    Calls Try.prog 36 #[.agg (wc s.list).toArray, .slice A 64 c] w fun e w' => e = .returned (.agg (wc (nxt s b).list).toArray) ∧ Below w.heap.size w w' := by
  have HR := Lib.hid hr
  have HB := Lib.hid hB
  have H1 := Lib.hid (wc_one kL)
  have H2 := Lib.hid (wc_one (wL b 64))
  obtain ⟨KC, hKC⟩ : ∃ K, K = (wc kL).toArray := ⟨_, rfl⟩
  obtain ⟨KW, hKW⟩ : ∃ K, K = (wc (wL b 64)).toArray := ⟨_, rfl⟩
  have c1 := fun (W : World) (h : Rd W B A 64 b) (hb : B ≤ W.heap.size) => cwords_any A c B b W h hb hc hc2
  have c2 := roundWords_any
  rw [← hKC] at H1 c2
  rw [← hKW] at H2 c1
  have C1 := Lib.hid c1
  have C2 := Lib.hid c2
  have HKC := Lib.hid hKC
  have HKW := Lib.hid hKW
  have SC : Hid (KC.size = 64) := by show _ = _; rw [hKC, List.size_toArray, wc_length, kL_length]
  have SW : Hid (KW.size = 64) := by show _ = _; rw [hKW, List.size_toArray, wc_length, wL_length]
  clear hr hB c1 c2 hKC hKW
  go_enter Try.func36, Try.ntmps36
  go_wp2_with (first
    | (refine wpList_allocZ rfl 48 rfl _ zero8v ?_)
    | (refine wpList_allocZ rfl 56 rfl _ zero64v ?_)
    | fail)
  refine (C1.out _ (((HR.out.alloc HB.out _).alloc (Nat.le_trans HB.out (by simp)) _)) (Nat.le_trans HB.out (by simp; omega))).mono ?_
  rintro e w1 ⟨rfl, hb1⟩
  have B1 := Lib.hid hb1
  clear hb1
  go_wp2_with fail
  refine (C2.out _).mono ?_
  rintro e w2 ⟨rfl, hb2⟩
  have z2 : w.heap.size + 2 ≤ w2.heap.size := by
    have h1 := B1.out.size
    have h2 := hb2.size
    simp at h1
    omega
  have b2 : Below (w.heap.size + 2) ((w.alloc (Obj.cells (wc s.list).toArray 48)).alloc (Obj.cells (Array.replicate 8 (Value.int IntKind.u32 0)) 48)) w2 := by
    have h1 := B1.out
    refine (h1.mono (by simp)).trans (hb2.mono (by have h2 := h1.size; simp at h2; omega))
  have q0 : w2.heap[w.heap.size]? = some (.cells (wc s.list).toArray 48 (0, 0)) := by
    rw [b2.block w.heap.size (by omega), heap_lt _ _ _ (by simp)]
    exact heap_alloc_new w _
  have q1 : w2.heap[w.heap.size + 1]? = some (.cells (Array.replicate 8 (.int .u32 0)) 48 (0, 0)) := by
    rw [b2.block (w.heap.size + 1) (by omega)]
    have h := heap_alloc_new (w.alloc (Obj.cells (wc s.list).toArray 48)) (Obj.cells (Array.replicate 8 (Value.int IntKind.u32 0)) 48)
    simpa using h
  have bw : Below w.heap.size w w2 := (((Below.refl _ w).alloc (Nat.le_refl _) _).alloc (by simp) _).trans (b2.mono (by omega))
  have Z2 := Lib.hid z2
  have Q0 := Lib.hid q0
  have Q1 := Lib.hid q1
  have BW := Lib.hid bw
  clear hb2 z2 b2 q0 q1 bw
  have k5 : ((w2.alloc (.cells (Array.replicate 64 (.int .u32 0)) 56)).alloc (.cells (Array.replicate 64 (.int .u32 0)) 56)).heap[w2.heap.size]? = some (.cells (Array.replicate 64 (.int .u32 0)) 56 (0, 0)) := by
    rw [heap_lt _ _ _ (by simp)]
    exact heap_alloc_new w2 _
  have k6 : ((w2.alloc (.cells (Array.replicate 64 (.int .u32 0)) 56)).alloc (.cells (Array.replicate 64 (.int .u32 0)) 56)).heap[w2.heap.size + 1]? = some (.cells (Array.replicate 64 (.int .u32 0)) 56 (0, 0)) := by
    have h := heap_alloc_new (w2.alloc (.cells (Array.replicate 64 (.int .u32 0)) 56)) (.cells (Array.replicate 64 (.int .u32 0)) 56)
    simpa using h
  have K5 := Lib.hid k5
  have K6 := Lib.hid k6
  clear k5 k6
  go_wp2_with (first
    | (refine wpList_allocN rfl 56 rfl _ zero64v w2.heap.size rfl ?_; refine wpList_allocN rfl 56 rfl _ zero64v (w2.heap.size + 1) (by simp) ?_)
    | (refine wpList_stRow rfl 56 (.tmp 5) (.tmp 21) rfl w2.heap.size KW rfl rfl 56 _ K5.out (by rw [SW.out]; exact info64) (by rw [SW.out, Array.size_replicate]) H2.out ?_; intro w3 r3 o3 b3 z3; have R3 := Lib.hid r3; have O3 := Lib.hid o3; have B3 := Lib.hid b3; have Z3 := Lib.hid z3; clear r3 o3 b3 z3; refine wpList_stRow rfl 56 (.tmp 6) (.tmp 22) rfl (w2.heap.size + 1) KC rfl rfl 56 _ ((O3.out (w2.heap.size + 1) (by omega)).trans K6.out) (by rw [SC.out]; exact info64) (by rw [SC.out, Array.size_replicate]) H1.out ?_; intro w4 r4 o4 b4 z4; have R4 := Lib.hid r4; have O4 := Lib.hid o4; have B4 := Lib.hid b4; have Z4 := Lib.hid z4; clear r4 o4 b4 z4)
    | fail)
  have rW : w4.rowIs w2.heap.size 56 64 (fun j => .int .u32 (((wL b 64).getD j 0).toNat : Int)) :=
    rowIs_of HKW.out (wL_length b 64) ((O4.out w2.heap.size (by omega)).trans R3.out)
  have rK : w4.rowIs (w2.heap.size + 1) 56 64 (fun j => .int .u32 ((kL.getD j 0).toNat : Int)) :=
    rowIs_of HKC.out kL_length R4.out
  have low : ∀ k, k < w2.heap.size → w4.heap[k]? = w2.heap[k]? := fun k hk => by
    rw [O4.out k (by omega), O3.out k (by omega), heap_lt _ _ _ (by simp; omega), heap_lt _ _ _ hk]
  have zz := Z2.out
  have rS : w4.rowIs w.heap.size 48 8 (fun j => .int .u32 ((s.list.getD j 0).toNat : Int)) :=
    rowIs_of rfl rfl ((low _ (by omega)).trans Q0.out)
  have rR : w4.heap[w.heap.size + 1]? = some (.cells (Array.replicate 8 (.int .u32 0)) 48 (0, 0)) := (low _ (by omega)).trans Q1.out
  have bW : Below w.heap.size w w4 := B4.out _ _ (B3.out _ _ ((BW.out.alloc (by omega) _).alloc (by simp; omega) _) (by omega)) (by omega)
  have e0 : w4.cell? ⟨w.heap.size, 0, none⟩ = some (.int .u32 (s.a.toNat : Int)) := World.rowIs.cell rS (by decide)
  have e1 : w4.cell? ⟨w.heap.size, 1, none⟩ = some (.int .u32 (s.b.toNat : Int)) := World.rowIs.cell rS (by decide)
  have e2 : w4.cell? ⟨w.heap.size, 2, none⟩ = some (.int .u32 (s.c.toNat : Int)) := World.rowIs.cell rS (by decide)
  have e3 : w4.cell? ⟨w.heap.size, 3, none⟩ = some (.int .u32 (s.d.toNat : Int)) := World.rowIs.cell rS (by decide)
  have e4 : w4.cell? ⟨w.heap.size, 4, none⟩ = some (.int .u32 (s.e.toNat : Int)) := World.rowIs.cell rS (by decide)
  have e5 : w4.cell? ⟨w.heap.size, 5, none⟩ = some (.int .u32 (s.f.toNat : Int)) := World.rowIs.cell rS (by decide)
  have e6 : w4.cell? ⟨w.heap.size, 6, none⟩ = some (.int .u32 (s.g.toNat : Int)) := World.rowIs.cell rS (by decide)
  have e7 : w4.cell? ⟨w.heap.size, 7, none⟩ = some (.int .u32 (s.h.toNat : Int)) := World.rowIs.cell rS (by decide)
  have z5 : w4.heap.size = w2.heap.size + 2 := by rw [Z4.out, Z3.out]; simp
  have RW := Lib.hid rW
  have RK := Lib.hid rK
  have RS := Lib.hid rS
  have RR := Lib.hid rR
  have BWx := Lib.hid bW
  have Z5 := Lib.hid z5
  clear rW rK low zz rS rR bW z5
  simp only [Act.put, List.setIfInBounds_toArray, List.set_cons_succ, List.set_cons_zero]
  go_region
  go_wp2_with fail
  go_region
  clear e0 e1 e2 e3 e4 e5 e6 e7
  go_wp2_with fail
  go_loopw [39, 7, 8, 9, 10, 11, 12, 13, 14] (fun i a1 a2 a3 a4 a5 a6 a7 a8 wr => ∃ (k : Nat) (S : St) (m : Nat), k ≤ 64 ∧ i = .int .i64 k ∧ Hid (S = rN s (wL b 64) k) ∧ a1 = .int .u32 (S.a.toNat : Int) ∧ a2 = .int .u32 (S.b.toNat : Int) ∧ a3 = .int .u32 (S.c.toNat : Int) ∧ a4 = .int .u32 (S.d.toNat : Int) ∧ a5 = .int .u32 (S.e.toNat : Int) ∧ a6 = .int .u32 (S.f.toNat : Int) ∧ a7 = .int .u32 (S.g.toNat : Int) ∧ a8 = .int .u32 (S.h.toNat : Int) ∧ Hid (wr = w4.drewN m))
    (fun i _ _ _ _ _ _ _ _ _ => 64 - (intOf i).toNat)
  case atStart => exact ⟨0, s, 2, by omega, rfl, rfl, rfl, rfl, rfl, rfl, rfl, rfl, rfl, rfl, rfl⟩
  case round =>
    obtain ⟨k, S, m, hk, rfl, hS, rfl, rfl, rfl, rfl, rfl, rfl, rfl, rfl, hwr⟩ := hrel
    by_cases hlt : k < 64
    · obtain ⟨x, hx⟩ : ∃ x, x = (wL b 64).getD k 0 := ⟨_, rfl⟩
      obtain ⟨y, hy⟩ : ∃ y, y = kL.getD k 0 := ⟨_, rfl⟩
      have cx : wr.cell? ⟨w2.heap.size, k, none⟩ = some (.int .u32 (x.toNat : Int)) := by rw [hx, hwr.out]; exact World.rowIs.cell RW.out hlt
      have cy : wr.cell? ⟨w2.heap.size + 1, k, none⟩ = some (.int .u32 (y.toNat : Int)) := by rw [hy, hwr.out]; exact World.rowIs.cell RK.out hlt
      have T1 := Lib.hid (fun W n => Calls.quiet_of_same (n := n) ((show Calls Try.prog 40 #[.int .u32 (S.e.toNat : Int), .int .i64 6, .int .i64 11, .int .i64 25] (World.drewN W n) _ from turned_any S.e 6 11 25 (by decide) (by decide) (by decide) (W.drewN n)).mono (fun _ _ h => ⟨h.1, h.2.symm⟩)))
      have T2 := Lib.hid (fun W => (show Calls Try.prog 40 #[.int .u32 (S.a.toNat : Int), .int .i64 2, .int .i64 13, .int .i64 22] W _ from turned_any S.a 2 13 22 (by decide) (by decide) (by decide) W))
      have k0 : (0 : Int) ≤ (k : Int) := by omega
      have k1 : (k : Int) < 64 := by omega
      have Hx := Lib.hid hx
      have Hy := Lib.hid hy
      clear hx hy
      go_wp2_with fail
      go_quiet (first | (go_at_call 40; exact T1.out _ _) | fail)
      go_wp2_with fail
      refine (T2.out _).mono ?_
      rintro e w5 ⟨rfl, rfl⟩
      go_wp2_with fail
      go_roundw
      case rel =>
        refine ⟨k + 1, S.rnd y x, m + nq, by omega, by go_num, ?_, iu ?_, rfl, rfl, rfl, iu ?_, rfl, rfl, rfl, ?_⟩
        · show _ = _
          rw [hS.out, Hx.out, Hy.out]; rfl
        · rw [andw, notx, andw, xor32, andw, andw, xor32, andw, xor32]
          exact sumA _ _ _ _ _ _ _
        · rw [andw, notx, andw, xor32]
          exact sumE _ _ _ _ _ _
        · show _ = _
          rw [hwr.out, World.drewN_drewN]
      case measure => simp [intOf]; omega
    · obtain rfl : k = 64 := by omega
      obtain ⟨wq, hwq⟩ : ∃ W, W = wr := ⟨_, rfl⟩
      subst hwq
      have hS2 : nxt s b = s.add S := by rw [hS.out]; rfl
      have rS : wq.rowIs w.heap.size 48 8 (fun j => .int .u32 ((mixL s S 0 j).toNat : Int)) := by
        rw [hwr.out]
        exact World.rowIs.congr (w := w4.drewN m) RS.out (fun j _ => by rw [mixL_zero])
      have rR : wq.heap[w.heap.size + 1]? = some (.cells (Array.replicate 8 (.int .u32 0)) 48 (0, 0)) := by rw [hwr.out]; exact RR.out
      have bW : Below w.heap.size w wq := by rw [hwr.out]; exact BWx.out.trans (below_dN _ _ _)
      have zr : w.heap.size + 2 ≤ wq.heap.size := by
        rw [hwr.out]
        show _ ≤ w4.heap.size
        rw [Z5.out]; have := Z2.out; omega
      have rB : (wq.alloc (.cells (wc S.list).toArray 48)).rowIs wq.heap.size 48 8 (fun j => .int .u32 ((S.list.getD j 0).toNat : Int)) := rowIs_of rfl rfl (heap_alloc_new _ _)
      obtain ⟨g8, hg8⟩ : ∃ g, g = wq.heap.size := ⟨_, rfl⟩
      rw [← hg8] at rB zr
      have S2 := Lib.hid hS2
      have RS2 := Lib.hid rS
      have RR2 := Lib.hid rR
      have BW2 := Lib.hid bW
      have ZR := Lib.hid zr
      have RB := Lib.hid rB
      have HG8 := Lib.hid hg8
      clear hS2 rS rR bW zr rB hg8
      go_wp2_with fail
      go_loopw [99] (fun i wy => ∃ k : Nat, k ≤ 8 ∧ i = .int .i64 k ∧ Hid (wy.rowIs w.heap.size 48 8 (fun j => .int .u32 ((mixL s S k j).toNat : Int))) ∧ Hid (wy.rowIs wq.heap.size 48 8 (fun j => .int .u32 ((S.list.getD j 0).toNat : Int))) ∧ Hid (wy.heap[w.heap.size + 1]? = some (.cells (Array.replicate 8 (.int .u32 0)) 48 (0, 0))) ∧ Hid (Below w.heap.size w wy))
        (fun i _ => 8 - (intOf i).toNat)
      case atStart =>
        have hb := BW2.out.size
        have zr := ZR.out
        have hg := HG8.out
        refine ⟨0, by omega, rfl, World.rowIs.alloc RS2.out _, by have h := RB.out; rw [hg] at h; exact h, (heap_lt _ _ _ (by omega)).trans RR2.out, BW2.out.alloc hb _⟩
      case round =>
        obtain ⟨q, hq, rfl, hr0, hr1, hr2, hbl⟩ := hrel
        have hb := BW2.out.size
        have zr := ZR.out
        have hg := HG8.out
        by_cases hlt : q < 8
        · obtain ⟨x, hx⟩ : ∃ x, x = mixL s S q q := ⟨_, rfl⟩
          obtain ⟨y, hy⟩ : ∃ y, y = S.list.getD q 0 := ⟨_, rfl⟩
          have cx : wr.cell? ⟨w.heap.size, q, none⟩ = some (.int .u32 (x.toNat : Int)) := by rw [hx]; exact World.rowIs.cell hr0.out hlt
          have cy : wr.cell? ⟨wq.heap.size, q, none⟩ = some (.int .u32 (y.toNat : Int)) := by rw [hy]; exact World.rowIs.cell hr1.out hlt
          have hf : wr.frozen? ⟨w.heap.size, q, none⟩ = false := World.rowIs.frozen hr0.out _
          have k0 : (0 : Int) ≤ (q : Int) := by omega
          have k1 : (q : Int) < 8 := by omega
          have Hx := Lib.hid hx
          have Hy := Lib.hid hy
          clear hx hy
          go_wp2_with fail
          go_region
          go_wp2_with fail
          go_roundw
          case rel =>
            refine ⟨q + 1, by omega, by go_num, ?_, ?_, ?_, ?_⟩
            · refine (World.rowIs.set (w := wr) hr0.out q _).congr fun j _ => ?_
              rw [mixL_step]
              by_cases hj : j = q
              · rw [if_pos hj, if_pos hj]
                refine iu ?_
                have e := addw x y
                rw [Hx.out, Hy.out] at e
                rw [Hx.out, Hy.out, e]
                congr 2
                unfold mixL
                rw [if_neg (by omega)]
              · rw [if_neg hj, if_neg hj]
            · exact World.rowIs.setOther (w := wr) hr1.out (by show wq.heap.size ≠ w.heap.size; omega) _
            · exact (heap_setCell_other wr _ _ _ (by show w.heap.size + 1 ≠ w.heap.size; omega)).trans hr2.out
            · exact (Below.setCell (p := ⟨w.heap.size, q, none⟩) hbl.out (Nat.le_refl _) _).drew
          case measure => simp [intOf]; omega
        · obtain rfl : q = 8 := by omega
          have hg := rowIs_cells (l := (nxt s b).list) rfl (World.rowIs.congr hr0.out fun j hj => by rw [mixL_end s S j hj, S2.out])
          have hs : (wc (nxt s b).list).toArray.size = 8 := by rw [List.size_toArray, wc_length]; rfl
          have h1 := wc_one (nxt s b).list
          obtain ⟨K, hK⟩ : ∃ K, K = (wc (nxt s b).list).toArray := ⟨_, rfl⟩
          rw [← hK] at hs h1 hg
          have HS := Lib.hid hs
          have HK := Lib.hid hK
          have HX1 := Lib.hid h1
          have HG := Lib.hid hg
          clear hs hK h1 hg
          go_wp2_with (first
            | (refine wpList_load_row rfl 48 (.tmp 2) rfl w.heap.size rfl 48 K (0, 0) _ HG.out Try.underlying48 rfl (by rw [HS.out]; exact info8) ?_)
            | (refine wpList_stRow rfl 48 (.tmp 4) (.tmp 111) rfl (w.heap.size + 1) K rfl rfl 48 _ hr2.out (by rw [HS.out]; exact info8) (by rw [HS.out, Array.size_replicate]) HX1.out ?_; intro w6 r6 o6 b6 z6; have R6 := Lib.hid r6; have B6 := Lib.hid b6; clear r6 o6 b6 z6)
            | fail)
          refine bodyPost_ret (v := .agg K) (results_cell_row (p := 4) (ty := 48) rfl _ _ (w.heap.size + 1) 48 K (0, 0) _ rfl R6.out Try.underlying48 rfl (by rw [HS.out]; exact info8)) rfl ?_
          exact ⟨by rw [HK.out], B6.out _ _ hbl.out (by omega)⟩
end Go.Proofs.Ytllodapnbdbpeaa
