/- What taken of layer 5 returns. -/
import Derived.Test.YtbdjkihgcmebgaaGreatDoorRBlkE
namespace Go.Proofs.YtbdjkihgcmebgaaGreatDoor
open Go.RowKit

/-- A block that is read off an item. -/
def TookB (x : Itm) (w : World) (e : Ending) (w' : World) : Prop := Below w.heap.size w w' ∧ ∃ (t n f : Nat) (c : Int) (A : Option Addr) (nd cd : Nat) (d : List UInt8), e = .returned (blkV t n f c A nd cd) ∧ takenB x = ⟨t, n, f, c, d⟩ ∧ Bd ⟨t, n, f, c, d⟩ ∧ (Lit.int .i64 c).wf = true ∧ (nd ≤ cd ∧ nd ≤ 140737488355328) ∧ Rd w w.heap.size A nd d

theorem below_put5 {B g : Nat} {w W' : World} {u0 u1 u2 u3 u4 : Value} (h : Below B w W') (hg : B ≤ g) : Below B w (((((W'.setCell ⟨g, 0, none⟩ u0).setCell ⟨g, 1, none⟩ u1).setCell ⟨g, 2, none⟩ u2).setCell ⟨g, 3, none⟩ u3).setCell ⟨g, 4, none⟩ u4) :=
  (((((h.setCell (p := ⟨g, 0, none⟩) hg _).setCell (p := ⟨g, 1, none⟩) hg _).setCell (p := ⟨g, 2, none⟩) hg _).setCell (p := ⟨g, 3, none⟩) hg _).setCell (p := ⟨g, 4, none⟩) hg _)
/-- Zeros of a block's cells, in a box of one's own. -/
theorem zero5 {w w' : World} {g : Nat} (hg : g = w.heap.size) (h : Below (g + 1) (w.alloc (.cells #[.int .u64 0, .int .u64 0, .int .u64 0, .int .i64 0, .slice none 0 0] 25)) w') :
    (w'.cell? ⟨g, 0, none⟩ = some (.int .u64 0) ∧ w'.cell? ⟨g, 1, none⟩ = some (.int .u64 0) ∧ w'.cell? ⟨g, 2, none⟩ = some (.int .u64 0) ∧ w'.cell? ⟨g, 3, none⟩ = some (.int .i64 0) ∧ w'.cell? ⟨g, 4, none⟩ = some (.slice none 0 0)) ∧
    (w'.frozen? ⟨g, 0, none⟩ = false ∧ w'.frozen? ⟨g, 1, none⟩ = false ∧ w'.frozen? ⟨g, 2, none⟩ = false ∧ w'.frozen? ⟨g, 3, none⟩ = false ∧ w'.frozen? ⟨g, 4, none⟩ = false) := by
  refine ⟨box5 hg h, ?_⟩
  subst hg
  refine ⟨?_, ?_, ?_, ?_, ?_⟩ <;> (rw [h.frozen (Nat.lt_succ_self _)]; simp)
/-- An item's cells, one by one. -/
theorem RdI.cells {w : World} {B : Nat} {c0 c1 c2 c3 : Value} {k : Int} {n : Nat} {d : List UInt8} {l : List Itm} (h : RdI w B (.agg #[c0, c1, c2, c3]) (.mk k n d l)) :
    ∃ (A : Option Addr) (nd cd : Nat), c0 = .int .i64 k ∧ c1 = .int .u64 (n : Int) ∧ c2 = .slice A nd cd ∧ n < 18446744073709551616 ∧ (nd ≤ cd ∧ nd ≤ 140737488355328) ∧ Rd w B A nd d := by
  obtain ⟨A, nd, cd, AL, cl, e, -, h2, h3, h4, -, -⟩ := h.open
  injection e with e
  simp only [Array.mk.injEq, List.cons.injEq, and_true] at e
  obtain ⟨rfl, rfl, rfl, -⟩ := e
  exact ⟨A, nd, cd, rfl, rfl, rfl, h2, h3, h4⟩
theorem put5_cell {W : World} {g : Nat} {p : Addr} {u v0 v1 v2 v3 v4 : Value} (h : W.cell? p = some u) (hg : ¬ g = p.block) : (((((W.setCell ⟨g, 0, none⟩ v0).setCell ⟨g, 1, none⟩ v1).setCell ⟨g, 2, none⟩ v2).setCell ⟨g, 3, none⟩ v3).setCell ⟨g, 4, none⟩ v4).cell? p = some u := by
  rw [World.cell?_setCell_far _ _ _ _ hg, World.cell?_setCell_far _ _ _ _ hg, World.cell?_setCell_far _ _ _ _ hg, World.cell?_setCell_far _ _ _ _ hg, World.cell?_setCell_far _ _ _ _ hg]
  exact h
theorem drew_cell {W : World} {p : Addr} {u : Value} (h : W.cell? p = some u) : W.drew.cell? p = some u := h
theorem put5_drew {W : World} {g : Nat} {p : Addr} {u v0 v1 v2 v3 v4 : Value} (h : W.cell? p = some u) (hg : ¬ g = p.block) : (((((W.setCell ⟨g, 0, none⟩ v0).setCell ⟨g, 1, none⟩ v1).setCell ⟨g, 2, none⟩ v2).setCell ⟨g, 3, none⟩ v3).setCell ⟨g, 4, none⟩ v4).drew.cell? p = some u := drew_cell (put5_cell h hg)
theorem i64eq (n : Int) : IntKind.i64.wrap n = wrap64 n := by
  simp only [IntKind.wrap, wrap64, IntKind.signed, IntKind.bits]
  first | rfl | (simp; omega) | omega
theorem wf_wrap64 (n : Int) : (Lit.int .i64 (wrap64 n)).wf = true := by
  simp only [Lit.wf, IntKind.min, IntKind.max, IntKind.signed, IntKind.bits, wrap64, Bool.and_eq_true, decide_eq_true_eq, if_true]
  omega

set_option maxRecDepth 100000 in
set_option maxHeartbeats 4000000 in
theorem btaken_any (x : Itm) (v0 : Value) (B : Nat) (w : World) (hB : B ≤ w.heap.size) (h : RdI w B v0 x) :
    Calls Tryz.prog 23 #[v0] w (TookB x w) := by
  obtain ⟨k, m, d0, l⟩ := x
  obtain ⟨A, nd, cd, AL, cl, rfl, -, -, -, -, hl, hrow⟩ := h.open
  have HB0 : Hid (Below w.heap.size w ((w.alloc (.cells #[.int .i64 k, .int .u64 (m : Int), .slice A nd cd, .slice AL l.length cl] 42)).alloc (.cells #[.int .u64 0, .int .u64 0, .int .u64 0, .int .i64 0, .slice none 0 0] 25))) := ((Below.refl _ _).alloc (Nat.le_refl _) _).alloc (le_alloc _ _) _
  by_cases h5 : l.length < 5
  · have ht : takenB (.mk k m d0 l) = Blk.zero := by
      match l, h5 with
      | [], _ => rfl
      | [_], _ => rfl
      | [_, _], _ => rfl
      | [_, _, _], _ => rfl
      | [_, _, _, _], _ => rfl
      | _ :: _ :: _ :: _ :: _ :: _, h => simp at h; omega
    have HT : Hid (∀ w' : World, Below w.heap.size w w' → TookB (.mk k m d0 l) w (.returned (blkV 0 0 0 0 none 0 0)) w') := fun w' hb => ⟨hb, 0, 0, 0, 0, none, 0, 0, [], rfl, ht, ⟨by decide, by decide, by decide⟩, by decide, ⟨Nat.le_refl _, by decide⟩, Rd.nil_⟩
    have h5i : (l.length : Int) < 5 := by omega
    obtain ⟨⟨z0, z1, z2, z3, z4⟩, f0, f1, f2, f3, f4⟩ := zero5 (g := w.heap.size + 1) (by simp) (Below.refl (w.heap.size + 1 + 1) ((w.alloc (.cells #[.int .i64 k, .int .u64 (m : Int), .slice A nd cd, .slice AL l.length cl] 42)).alloc (.cells #[.int .u64 0, .int .u64 0, .int .u64 0, .int .i64 0, .slice none 0 0] 25)))
    clear ht h hrow hl
    generalize l.length = L at *
    go_enter Tryz.func23, Tryz.ntmps23
    go_wp2_with fail
    refine bodyPost_ret (v := blkV 0 0 0 0 none 0 0) (by simp [results, Tryz.results23, go_sem, z0, z1, z2, z3, z4, blkV]) rfl (HT.out _ ?_)
    first | exact HB0.out | exact below_put5 HB0.out (Nat.le_succ _)
  · obtain ⟨y0, y1, y2, y3, y4, r, rfl⟩ : ∃ y0 y1 y2 y3 y4 r, l = y0 :: y1 :: y2 :: y3 :: y4 :: r := by
      match l, h5 with
      | [], h => exact absurd (by simp) h
      | [_], h => exact absurd (by simp) h
      | [_, _], h => exact absurd (by simp) h
      | [_, _, _], h => exact absurd (by simp) h
      | [_, _, _, _], h => exact absurd (by simp) h
      | y0 :: y1 :: y2 :: y3 :: y4 :: r, _ => exact ⟨y0, y1, y2, y3, y4, r, rfl⟩
    obtain ⟨b, o, rfl, hb, hs⟩ := hrow (by simp)
    rw [RdIs, RdIs, RdIs, RdIs, RdIs] at hs
    obtain ⟨⟨a00, a01, a02, a03, -, i0, -, -, x0⟩, ⟨a10, a11, a12, a13, -, i1, -, -, x1⟩, ⟨a20, a21, a22, a23, -, i2, -, -, x2⟩, ⟨a30, a31, a32, a33, -, i3, -, -, x3⟩, ⟨a40, a41, a42, a43, -, -, i4, -, x4⟩, -⟩ := hs
    obtain ⟨k0, n0, d0', l0⟩ := y0
    obtain ⟨k1, n1, d1, l1⟩ := y1
    obtain ⟨k2, n2, d2, l2⟩ := y2
    obtain ⟨k3, n3, d3, l3⟩ := y3
    obtain ⟨k4, n4, d4, l4⟩ := y4
    obtain ⟨-, -, -, -, rfl, -, b0, -, -⟩ := x0.cells
    obtain ⟨-, -, -, -, rfl, -, b1, -, -⟩ := x1.cells
    obtain ⟨-, -, -, -, rfl, -, b2, -, -⟩ := x2.cells
    obtain ⟨-, -, -, -, rfl, -, b3, -, -⟩ := x3.cells
    obtain ⟨A4, nd4, cd4, -, -, rfl, -, b4, r4⟩ := x4.cells
    have hlt : b < w.heap.size := Nat.lt_of_lt_of_le hb hB
    generalize hL : (Itm.mk k0 n0 d0' l0 :: .mk k1 n1 d1 l1 :: .mk k2 n2 d2 l2 :: .mk k3 n3 d3 l3 :: .mk k4 n4 d4 l4 :: r).length = L at *
    have HT : Hid (∀ w' : World, Below w.heap.size w w' → TookB (.mk k m d0 (Itm.mk k0 n0 d0' l0 :: .mk k1 n1 d1 l1 :: .mk k2 n2 d2 l2 :: .mk k3 n3 d3 l3 :: .mk k4 n4 d4 l4 :: r)) w (.returned (blkV n0 n1 n2 (wrap64 (n3 : Int)) A4 nd4 cd4)) w') := fun w' hb => ⟨hb, n0, n1, n2, wrap64 (n3 : Int), A4, nd4, cd4, d4, rfl, rfl, ⟨b0, b1, b2⟩, wf_wrap64 _, b4, r4.more hB⟩
    have h5i : ¬ (L : Int) < 5 := by omega
    have hLc := hl.1
    have h5n : 5 ≤ L := by omega
    have hn0 : 0 < L := by omega
    have hi0 : (0 : Int) < L := by omega
    have hn1 : 1 < L := by omega
    have hi1 : (1 : Int) < L := by omega
    have hn2 : 2 < L := by omega
    have hi2 : (2 : Int) < L := by omega
    have hn3 : 3 < L := by omega
    have hi3 : (3 : Int) < L := by omega
    have hn4 : 4 < L := by omega
    have hi4 : (4 : Int) < L := by omega
    obtain ⟨W2, hW2⟩ : ∃ W2, W2 = ((w.alloc (.cells #[.int .i64 k, .int .u64 (m : Int), .slice A nd cd, .slice (some ⟨b, o, none⟩) L cl] 42)).alloc (.cells #[.int .u64 0, .int .u64 0, .int .u64 0, .int .i64 0, .slice none 0 0] 25)) := ⟨_, rfl⟩
    have kk : ∀ j u, w.cell? ⟨b, j, none⟩ = some u → W2.cell? ⟨b, j, none⟩ = some u := fun j u hc => by rw [hW2]; exact (HB0.out.cell (p := ⟨b, j, none⟩) hlt).trans hc
    have s0 := kk _ _ i0
    have s1 := kk _ _ i1
    have s2 := kk _ _ i2
    have s3 := kk _ _ i3
    have s4 := kk _ _ i4
    have t3 : W2.cell? ⟨w.heap.size, 3, none⟩ = some (.slice (some ⟨b, o, none⟩) L cl) := by
      rw [hW2, World.cell?_alloc_lt _ _ ⟨w.heap.size, 3, none⟩ (by simp), World.cell?_alloc_at _ _ _ _ rfl]; rfl
    have hz5 := zero5 (g := w.heap.size + 1) (by simp) (Below.refl (w.heap.size + 1 + 1) ((w.alloc (.cells #[.int .i64 k, .int .u64 (m : Int), .slice A nd cd, .slice (some ⟨b, o, none⟩) L cl] 42)).alloc (.cells #[.int .u64 0, .int .u64 0, .int .u64 0, .int .i64 0, .slice none 0 0] 25)))
    rw [← hW2] at hz5 HB0
    obtain ⟨⟨z0, z1, z2, z3, z4⟩, f0, f1, f2, f3, f4⟩ := hz5
    have q0 : (w.alloc (.cells #[.int .i64 k, .int .u64 (m : Int), .slice A nd cd, .slice (some ⟨b, o, none⟩) L cl] 42)).heap.size = w.heap.size + 1 := by simp
    have HN1 : Hid (¬ w.heap.size + 1 = w.heap.size) := Nat.succ_ne_self _
    have HN2 : Hid (¬ w.heap.size + 1 = b) := fun h => by omega
    clear hL h hrow hl kk i0 i1 i2 i3 i4 x0 x1 x2 x3 x4 b0 b1 b2 b3 b4 r4 h5 hlt hb q0
    go_enter Tryz.func23, Tryz.ntmps23
    go_wp2_with fail
    rw [← hW2]
    clear hW2
    have t3d : W2.drew.cell? ⟨w.heap.size, 3, none⟩ = some (.slice (some ⟨b, o, none⟩) L cl) := t3
    have s0d : W2.drew.cell? ⟨b, o + 1, none⟩ = some (.int .u64 (n0 : Int)) := s0
    have s1d : W2.drew.cell? ⟨b, o + 4 + 1, none⟩ = some (.int .u64 (n1 : Int)) := s1
    have s2d : W2.drew.cell? ⟨b, o + 4 + 4 + 1, none⟩ = some (.int .u64 (n2 : Int)) := s2
    have s3d : W2.drew.cell? ⟨b, o + 4 + 4 + 4 + 1, none⟩ = some (.int .u64 (n3 : Int)) := s3
    have s4d : W2.drew.cell? ⟨b, o + 4 + 4 + 4 + 4 + 2, none⟩ = some (.slice A4 nd4 cd4) := s4
    go_region_held3 (fun W => W.cell? ⟨w.heap.size, 3, none⟩ = some (.slice (some ⟨b, o, none⟩) L cl) ∧ W.cell? ⟨b, o + 1, none⟩ = some (.int .u64 (n0 : Int)) ∧ W.cell? ⟨b, o + 4 + 1, none⟩ = some (.int .u64 (n1 : Int)) ∧ W.cell? ⟨b, o + 4 + 4 + 1, none⟩ = some (.int .u64 (n2 : Int)) ∧ W.cell? ⟨b, o + 4 + 4 + 4 + 1, none⟩ = some (.int .u64 (n3 : Int)) ∧ W.cell? ⟨b, o + 4 + 4 + 4 + 4 + 2, none⟩ = some (.slice A4 nd4 cd4))
      (first | (with_reducible exact ⟨put5_drew t3 HN1.out, put5_drew s0 HN2.out, put5_drew s1 HN2.out, put5_drew s2 HN2.out, put5_drew s3 HN2.out, put5_drew s4 HN2.out⟩) | (with_reducible exact ⟨t3d, s0d, s1d, s2d, s3d, s4d⟩) | fail)
      (fail)
    all_goals go_wp2_with fail
    all_goals
      refine bodyPost_ret (v := blkV n0 n1 n2 (wrap64 (n3 : Int)) A4 nd4 cd4) (by simp [results, Tryz.results23, go_sem, z0, z1, z2, z3, z4, blkV, IntKind.wrap_i64, wrap64]) rfl (HT.out _ ?_)
      first | exact below_put5 HB0.out (Nat.le_succ _) | exact (below_put5 HB0.out (Nat.le_succ _)).drew | exact below_put5 (HB0.out.drew) (Nat.le_succ _)
end Go.Proofs.YtbdjkihgcmebgaaGreatDoor
