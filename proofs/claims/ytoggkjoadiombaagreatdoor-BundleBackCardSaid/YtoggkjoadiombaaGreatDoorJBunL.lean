/- What taken and read and Decode of layer 5 return: data in no block that was there. -/
import Derived.Test.YtoggkjoadiombaaGreatDoorJBunG
import Derived.Test.YtoggkjoadiombaaGreatDoorJKDecL
import Derived.Deep.AppendLies
import Derived.WalkMore
import Derived.OwnWalk
namespace Go.Proofs.YtoggkjoadiombaaGreatDoor
open Go.RowKit
def TookS (S : Nat → Bool) (x : Itm) (w : World) (e : Ending) (w' : World) : Prop := Below w.heap.size w w' ∧ ∃ (t n f : Nat) (c : Int) (A : Option Addr) (nd cd : Nat) (d : List UInt8), e = .returned (blkV t n f c A nd cd) ∧ takenB x = ⟨t, n, f, c, d⟩ ∧ Bd ⟨t, n, f, c, d⟩ ∧ (Lit.int .i64 c).wf = true ∧ (nd ≤ cd ∧ nd ≤ 140737488355328) ∧ Rd (mask S w) w.heap.size A nd d
set_option maxRecDepth 100000 in
set_option maxHeartbeats 4000000 in
theorem btakenS_any (S : Nat → Bool) (x : Itm) (v0 : Value) (B : Nat) (w : World) (hB : B ≤ w.heap.size) (h : RdI (mask S w) B v0 x) :
    Calls Tryz.prog 147 #[v0] w (TookS S x w) := by
  obtain ⟨k, m, d0, l⟩ := x
  obtain ⟨A, nd, cd, AL, cl, rfl, -, -, -, -, hl, hrow⟩ := h.open
  have HB0 : Hid (Below w.heap.size w ((w.alloc (.cells #[.int .i64 k, .int .u64 (m : Int), .slice A nd cd, .slice AL l.length cl] 92)).alloc (.cells #[.int .u64 0, .int .u64 0, .int .u64 0, .int .i64 0, .slice none 0 0] 44))) := ((Below.refl _ _).alloc (Nat.le_refl _) _).alloc (le_alloc _ _) _
  by_cases h5 : l.length < 5
  · have ht : takenB (.mk k m d0 l) = Blk.zero := by
      match l, h5 with
      | [], _ => rfl
      | [_], _ => rfl
      | [_, _], _ => rfl
      | [_, _, _], _ => rfl
      | [_, _, _, _], _ => rfl
      | _ :: _ :: _ :: _ :: _ :: _, h => simp at h; omega
    have HT : Hid (∀ w' : World, Below w.heap.size w w' → TookS S (.mk k m d0 l) w (.returned (blkV 0 0 0 0 none 0 0)) w') := fun w' hb => ⟨hb, 0, 0, 0, 0, none, 0, 0, [], rfl, ht, ⟨by decide, by decide, by decide⟩, by decide, ⟨Nat.le_refl _, by decide⟩, Rd.nil_⟩
    have h5i : (l.length : Int) < 5 := by omega
    obtain ⟨⟨z0, z1, z2, z3, z4⟩, f0, f1, f2, f3, f4⟩ := zero5 (g := w.heap.size + 1) (by simp) (Below.refl (w.heap.size + 1 + 1) ((w.alloc (.cells #[.int .i64 k, .int .u64 (m : Int), .slice A nd cd, .slice AL l.length cl] 92)).alloc (.cells #[.int .u64 0, .int .u64 0, .int .u64 0, .int .i64 0, .slice none 0 0] 44)))
    clear ht h hrow hl
    generalize l.length = L at *
    go_enter Tryz.func147, Tryz.ntmps147
    go_wp2_with fail
    refine bodyPost_ret (v := blkV 0 0 0 0 none 0 0) (by simp [results, Tryz.results147, go_sem, z0, z1, z2, z3, z4, blkV]) rfl (HT.out _ ?_)
    first | exact HB0.out | exact below_put5 HB0.out (Nat.le_succ _)
  · obtain ⟨y0, y1, y2, y3, y4, r, rfl⟩ : ∃ y0 y1 y2 y3 y4 r, l = y0 :: y1 :: y2 :: y3 :: y4 :: r := by
      match l, h5 with
      | [], h => exact absurd (by simp) h
      | [_], h => exact absurd (by simp) h
      | [_, _], h => exact absurd (by simp) h
      | [_, _, _], h => exact absurd (by simp) h
      | [_, _, _, _], h => exact absurd (by simp) h
      | y0 :: y1 :: y2 :: y3 :: y4 :: r, _ => exact ⟨y0, y1, y2, y3, y4, r, rfl⟩
    obtain ⟨b, o, rfl, hb, hs⟩ := hrow (by simp)
    rw [RdIs, RdIs, RdIs, RdIs, RdIs] at hs
    obtain ⟨⟨a00, a01, a02, a03, -, i0, -, -, x0⟩, ⟨a10, a11, a12, a13, -, i1, -, -, x1⟩, ⟨a20, a21, a22, a23, -, i2, -, -, x2⟩, ⟨a30, a31, a32, a33, -, i3, -, -, x3⟩, ⟨a40, a41, a42, a43, -, -, i4, -, x4⟩, -⟩ := hs
    obtain ⟨k0, n0, d0', l0⟩ := y0
    obtain ⟨k1, n1, d1, l1⟩ := y1
    obtain ⟨k2, n2, d2, l2⟩ := y2
    obtain ⟨k3, n3, d3, l3⟩ := y3
    obtain ⟨k4, n4, d4, l4⟩ := y4
    obtain ⟨-, -, -, -, rfl, -, b0, -, -⟩ := x0.cells
    obtain ⟨-, -, -, -, rfl, -, b1, -, -⟩ := x1.cells
    obtain ⟨-, -, -, -, rfl, -, b2, -, -⟩ := x2.cells
    obtain ⟨-, -, -, -, rfl, -, b3, -, -⟩ := x3.cells
    obtain ⟨A4, nd4, cd4, -, -, rfl, -, b4, r4⟩ := x4.cells
    have hlt : b < w.heap.size := Nat.lt_of_lt_of_le hb hB
    generalize hL : (Itm.mk k0 n0 d0' l0 :: .mk k1 n1 d1 l1 :: .mk k2 n2 d2 l2 :: .mk k3 n3 d3 l3 :: .mk k4 n4 d4 l4 :: r).length = L at *
    have HT : Hid (∀ w' : World, Below w.heap.size w w' → TookS S (.mk k m d0 (Itm.mk k0 n0 d0' l0 :: .mk k1 n1 d1 l1 :: .mk k2 n2 d2 l2 :: .mk k3 n3 d3 l3 :: .mk k4 n4 d4 l4 :: r)) w (.returned (blkV n0 n1 n2 (wrap64 (n3 : Int)) A4 nd4 cd4)) w') := fun w' hb => ⟨hb, n0, n1, n2, wrap64 (n3 : Int), A4, nd4, cd4, d4, rfl, rfl, ⟨b0, b1, b2⟩, wf_wrap64 _, b4, r4.more hB⟩
    have h5i : ¬ (L : Int) < 5 := by omega
    have hLc := hl.1
    have h5n : 5 ≤ L := by omega
    have hn0 : 0 < L := by omega
    have hi0 : (0 : Int) < L := by omega
    have hn1 : 1 < L := by omega
    have hi1 : (1 : Int) < L := by omega
    have hn2 : 2 < L := by omega
    have hi2 : (2 : Int) < L := by omega
    have hn3 : 3 < L := by omega
    have hi3 : (3 : Int) < L := by omega
    have hn4 : 4 < L := by omega
    have hi4 : (4 : Int) < L := by omega
    obtain ⟨W2, hW2⟩ : ∃ W2, W2 = ((w.alloc (.cells #[.int .i64 k, .int .u64 (m : Int), .slice A nd cd, .slice (some ⟨b, o, none⟩) L cl] 92)).alloc (.cells #[.int .u64 0, .int .u64 0, .int .u64 0, .int .i64 0, .slice none 0 0] 44)) := ⟨_, rfl⟩
    have kk : ∀ j u, w.cell? ⟨b, j, none⟩ = some u → W2.cell? ⟨b, j, none⟩ = some u := fun j u hc => by rw [hW2]; exact (HB0.out.cell (p := ⟨b, j, none⟩) hlt).trans hc
    have s0 := kk _ _ (mask_sub i0)
    have s1 := kk _ _ (mask_sub i1)
    have s2 := kk _ _ (mask_sub i2)
    have s3 := kk _ _ (mask_sub i3)
    have s4 := kk _ _ (mask_sub i4)
    have t3 : W2.cell? ⟨w.heap.size, 3, none⟩ = some (.slice (some ⟨b, o, none⟩) L cl) := by
      rw [hW2, World.cell?_alloc_lt _ _ ⟨w.heap.size, 3, none⟩ (by simp), World.cell?_alloc_at _ _ _ _ rfl]; rfl
    have hz5 := zero5 (g := w.heap.size + 1) (by simp) (Below.refl (w.heap.size + 1 + 1) ((w.alloc (.cells #[.int .i64 k, .int .u64 (m : Int), .slice A nd cd, .slice (some ⟨b, o, none⟩) L cl] 92)).alloc (.cells #[.int .u64 0, .int .u64 0, .int .u64 0, .int .i64 0, .slice none 0 0] 44)))
    rw [← hW2] at hz5 HB0
    obtain ⟨⟨z0, z1, z2, z3, z4⟩, f0, f1, f2, f3, f4⟩ := hz5
    have q0 : (w.alloc (.cells #[.int .i64 k, .int .u64 (m : Int), .slice A nd cd, .slice (some ⟨b, o, none⟩) L cl] 92)).heap.size = w.heap.size + 1 := by simp
    have HN1 : Hid (¬ w.heap.size + 1 = w.heap.size) := Nat.succ_ne_self _
    have HN2 : Hid (¬ w.heap.size + 1 = b) := fun h => by omega
    clear hL h hrow hl kk i0 i1 i2 i3 i4 x0 x1 x2 x3 x4 b0 b1 b2 b3 b4 r4 h5 hlt hb q0
    go_enter Tryz.func147, Tryz.ntmps147
    go_wp2_with fail
    rw [← hW2]
    clear hW2
    have t3d : W2.drew.cell? ⟨w.heap.size, 3, none⟩ = some (.slice (some ⟨b, o, none⟩) L cl) := t3
    have s0d : W2.drew.cell? ⟨b, o + 1, none⟩ = some (.int .u64 (n0 : Int)) := s0
    have s1d : W2.drew.cell? ⟨b, o + 4 + 1, none⟩ = some (.int .u64 (n1 : Int)) := s1
    have s2d : W2.drew.cell? ⟨b, o + 4 + 4 + 1, none⟩ = some (.int .u64 (n2 : Int)) := s2
    have s3d : W2.drew.cell? ⟨b, o + 4 + 4 + 4 + 1, none⟩ = some (.int .u64 (n3 : Int)) := s3
    have s4d : W2.drew.cell? ⟨b, o + 4 + 4 + 4 + 4 + 2, none⟩ = some (.slice A4 nd4 cd4) := s4
    go_region_held3 (fun W => W.cell? ⟨w.heap.size, 3, none⟩ = some (.slice (some ⟨b, o, none⟩) L cl) ∧ W.cell? ⟨b, o + 1, none⟩ = some (.int .u64 (n0 : Int)) ∧ W.cell? ⟨b, o + 4 + 1, none⟩ = some (.int .u64 (n1 : Int)) ∧ W.cell? ⟨b, o + 4 + 4 + 1, none⟩ = some (.int .u64 (n2 : Int)) ∧ W.cell? ⟨b, o + 4 + 4 + 4 + 1, none⟩ = some (.int .u64 (n3 : Int)) ∧ W.cell? ⟨b, o + 4 + 4 + 4 + 4 + 2, none⟩ = some (.slice A4 nd4 cd4))
      (first | (with_reducible exact ⟨put5_drew t3 HN1.out, put5_drew s0 HN2.out, put5_drew s1 HN2.out, put5_drew s2 HN2.out, put5_drew s3 HN2.out, put5_drew s4 HN2.out⟩) | (with_reducible exact ⟨t3d, s0d, s1d, s2d, s3d, s4d⟩) | fail)
      (fail)
    all_goals go_wp2_with fail
    all_goals
      refine bodyPost_ret (v := blkV n0 n1 n2 (wrap64 (n3 : Int)) A4 nd4 cd4) (by simp [results, Tryz.results147, go_sem, z0, z1, z2, z3, z4, blkV, IntKind.wrap_i64, wrap64]) rfl (HT.out _ ?_)
      first | exact below_put5 HB0.out (Nat.le_succ _) | exact (below_put5 HB0.out (Nat.le_succ _)).drew | exact below_put5 (HB0.out.drew) (Nat.le_succ _)
theorem Rd.fresh {w : World} {lo B n : Nat} {A : Option Addr} {l : List UInt8} (h : Rd (mask (lows lo) w) B A n l) : Rd w B A n l ∧ (0 < n → ∀ b o, A = some ⟨b, o, none⟩ → lo ≤ b) :=
  ⟨⟨h.1, fun hn => by
    obtain ⟨b, o, e, hb, hc⟩ := h.2 hn
    exact ⟨b, o, e, hb, fun i hi => mask_sub (hc i hi)⟩⟩, fun hn b o e => by
    obtain ⟨b', o', e', -, hc⟩ := h.2 hn
    rw [e] at e'
    cases e'
    exact lows_f.1 (mask_out (hc 0 hn))⟩
def ReadS (l : List UInt8) (w : World) (e : Ending) (w' : World) : Prop := Below w.heap.size w w' ∧
  ((∃ (b : Blk) (A : Option Addr) (nd cd : Nat) (N : Int), e = .returned (.tuple #[blkV b.typ b.num b.flg b.crc A nd cd, .int .i64 N, .nilIface]) ∧ decB l = (b, N, 0) ∧ Bd b ∧ (nd ≤ cd ∧ nd ≤ 140737488355328) ∧ Rd w' w'.heap.size A nd b.dat ∧ (0 < nd → ∀ b o, A = some ⟨b, o, none⟩ → w.heap.size ≤ b)) ∨
   (∃ (z : Int) (s : ByteArray), z ≠ 0 ∧ decB l = (.zero, 0, z) ∧ e = .returned (.tuple #[blkV 0 0 0 0 none 0 0, .int .i64 0, bfl z s])))
set_option maxRecDepth 100000 in
set_option maxHeartbeats 8000000 in
theorem breadS_any (A : Option Addr) (n c B : Nat) (l : List UInt8) (w : World) (hB : B ≤ w.heap.size) (h : Rd w B A n l) (hn : n ≤ 140737488355328) (hc : n ≤ c) (hL : LaidE w) :
    Calls Tryz.prog 128 #[.slice A n c] w (ReadS l w) := by
  have HB0 := Lib.hid ((Below.refl w.heap.size w).alloc (Nat.le_refl _) (.cells #[.int .u64 0, .int .u64 0, .int .u64 0, .int .i64 0, .slice none 0 0] 44))
  have C1 := Lib.hid (cdecodeL_any A n c B l (w.alloc (.cells #[.int .u64 0, .int .u64 0, .int .u64 0, .int .i64 0, .slice none 0 0] 44)) (Nat.le_trans hB (le_alloc _ _)) (h.alloc hB _) hn hc (hL.below HB0.out hL.lt))
  have HZ := Lib.hid (fun (W : World) (hb : Below (w.heap.size + 1) (w.alloc (.cells #[.int .u64 0, .int .u64 0, .int .u64 0, .int .i64 0, .slice none 0 0] 44)) W) => zero5 (g := w.heap.size) rfl hb)
  have HZB : Hid (∀ (W : World) (_ : Below (w.heap.size + 1) (w.alloc (.cells #[.int .u64 0, .int .u64 0, .int .u64 0, .int .i64 0, .slice none 0 0] 44)) W), W.heap[w.heap.size]? = some (.cells #[.int .u64 0, .int .u64 0, .int .u64 0, .int .i64 0, .slice none 0 0] 44 (0, 0))) := fun W hb => by
    rw [hb.block w.heap.size (Nat.lt_succ_self _)]; exact heap_alloc_new w _
  have HR := Lib.hid h
  have HH := Lib.hid (And.intro hB (And.intro hn hc))
  have q1 := fun (W : World) (u : TypeId) (x : Value) => run_neq_iface_nil (P := Tryz.prog) (w := W) 59 (by kernel_rfl) u x
  have q2 := fun (W : World) (u : TypeId) (x : Value) => run_eql_iface_nil (P := Tryz.prog) (w := W) 59 (by kernel_rfl) u x
  have hs0 : (w.alloc (.cells #[.int .u64 0, .int .u64 0, .int .u64 0, .int .i64 0, .slice none 0 0] 44)).heap.size = w.heap.size + 1 := by simp
  clear h hB hn hc hL
  rcases decode_cases l with ⟨z, hz, hd⟩ | ⟨x, r, hl, hf, hsz, hd⟩
  · have hzn : z ≠ 0 := by omega
    have hz0 : (z == 0) = false := by simpa using hzn
    have HD := Lib.hid (decB_err hd hzn)
    rw [hd] at C1
    have HZN := Lib.hid hzn
    clear hd hz hzn
    go_enter Tryz.func128, Tryz.ntmps128
    go_wp2_with fail
    refine C1.out.mono ?_
    rintro e w1 ⟨v, rfl, hv, hb⟩
    obtain ⟨k1, n1, A1, nd1, cd1, AL1, nl1, cl1, rfl⟩ := hv.form
    rw [hs0] at hb
    have hb2 : Below (w.heap.size + 1) (w.alloc (.cells #[.int .u64 0, .int .u64 0, .int .u64 0, .int .i64 0, .slice none 0 0] 44)) (w1.alloc (.cells #[.int .i64 k1, .int .u64 (n1 : Int), .slice A1 nd1 cd1, .slice AL1 nl1 cl1] 92)) := hb.alloc (by have := hb.size; rw [hs0] at this; exact this) _
    obtain ⟨⟨z0, z1, z2, z3, z4⟩, f0, f1, f2, f3, f4⟩ := HZ.out _ hb2
    have B2 := Lib.hid hb2
    clear hb hv hb2
    go_wp2_with fail
    refine bodyPost_ret (v := .tuple #[blkV 0 0 0 0 none 0 0, .int .i64 0, bfl z ⟨#[110, 111, 32, 105, 116, 101, 109]⟩]) (by simp [results, Tryz.results128, go_sem, z0, z1, z2, z3, z4, blkV, bfl]) rfl ⟨below_put5 (HB0.out.trans (B2.out.mono (Nat.le_succ _))) (Nat.le_refl _), .inr ⟨z, _, HZN.out, HD.out, rfl⟩⟩
  · obtain ⟨M, hM⟩ : ∃ M, M = (wri x).length := ⟨_, rfl⟩
    rw [← hM] at hd
    have hMn : M ≤ n := by rw [← HR.out.1, hl, List.length_append, hM]; omega
    obtain ⟨D1, d1, k1, hd1, -, r1⟩ := cut_h (P := Tryz.prog) 35 5 Tryz.underlying35 size_u8 c HR.out (M : Int) M rfl hMn HH.out.2.2
    have HD := Lib.hid hd
    have HR1 := Lib.hid (And.intro r1 (And.intro hd1 hMn))
    rw [hd] at C1
    clear hl hf hsz hM hd r1 hd1 hMn
    go_enter Tryz.func128, Tryz.ntmps128
    go_wp2_with fail
    refine C1.out.mono ?_
    rintro e w1 ⟨v, rfl, hv, hb⟩
    obtain ⟨ka, na, Aa, nda, cda, ALa, nla, cla, rfl⟩ := hv.form
    rw [hs0] at hb
    have hw1 : w.heap.size + 1 ≤ w1.heap.size := by have := hb.size; rw [hs0] at this; exact this
    have hb2 := hb.alloc hw1 (.cells #[.int .i64 ka, .int .u64 (na : Int), .slice Aa nda cda, .slice ALa nla cla] 92)
    have C2 := Lib.hid (btakenS_any (lows (w.heap.size + 1)) x _ (w1.alloc (.cells #[.int .i64 ka, .int .u64 (na : Int), .slice Aa nda cda, .slice ALa nla cla] 92)).heap.size (w1.alloc (.cells #[.int .i64 ka, .int .u64 (na : Int), .slice Aa nda cda, .slice ALa nla cla] 92)) (Nat.le_refl _) (RdI.grow (lo' := w.heap.size + 1) hv ((Below.refl _ _).alloc (Nat.le_refl _) _) (by rw [hs0]; exact Nat.le_refl _)))
    have B2 := Lib.hid hb2
    have HW1 := Lib.hid hw1
    clear hv hb hb2 hw1
    go_wp2_with fail
    refine C2.out.mono ?_
    rintro e w2 ⟨hb, t, nn, f, cc, A2, nd2, cd2, d2, rfl, ht, hbd, hwf, hnd, hr⟩
    obtain ⟨hr, hfr⟩ := hr.fresh
    have HFR := Lib.hid hfr
    clear hfr
    have hw2 : w1.heap.size + 1 ≤ w2.heap.size := by have := hb.size; simpa using this
    have hb3 := B2.out.trans (hb.mono (by have := HW1.out; simp; omega))
    have hr2 := (hr.below hb).more (show _ ≤ w2.heap.size from hb.size)
    have hb4 := hb3.alloc (by have := HW1.out; omega) (.cells #[.int .u64 (t : Int), .int .u64 (nn : Int), .int .u64 (f : Int), .int .i64 cc, .slice A2 nd2 cd2] 44)
    have C3 := Lib.hid (bcheck_any t nn f cc A2 nd2 cd2 d2 (w2.alloc (.cells #[.int .u64 (t : Int), .int .u64 (nn : Int), .int .u64 (f : Int), .int .i64 cc, .slice A2 nd2 cd2] 44)) hr.1)
    have B4 := Lib.hid hb4
    have HW2 := Lib.hid hw2
    have HR2 := Lib.hid hr2
    have HT := Lib.hid ht
    have HBD := Lib.hid (And.intro hbd hnd)
    clear hb hb3 hb4 hr hr2 hw2 ht hbd hwf hnd C1 C2
    unfold blkV at *
    go_wp2_with fail
    refine C3.out.mono ?_
    rintro e w3 ⟨hb, ⟨hok, rfl⟩ | ⟨hok, s, rfl⟩⟩
    · have hb5 := B4.out.trans (hb.mono (by have := HW1.out; have := HW2.out; simp; omega))
      have hb6 := hb.mono (show w2.heap.size + 1 ≤ _ by simp)
      obtain ⟨g0, g1, g2, g3, g4⟩ := box5 rfl hb6
      have hlt3 : w2.heap.size < w3.heap.size := by have := hb6.size; simp at this; omega
      have hw3 : w.heap.size + 1 ≤ w3.heap.size := by have := HW1.out; have := HW2.out; omega
      have HW3 := Lib.hid hw3
      have B5 := Lib.hid hb5
      have hr3 : Rd w3 w3.heap.size A2 nd2 d2 := ((HR2.out.alloc (Nat.le_refl _) _).below (hb.mono (by simp))).more (Nat.le_of_lt hlt3)
      have HR3 := Lib.hid hr3
      have gd0 := drew_cell g0
      have gd1 := drew_cell g1
      have gd2 := drew_cell g2
      have gd3 := drew_cell g3
      have gd4 := drew_cell g4
      have R3 : Hid (∀ W, Below w3.heap.size w3 W → Rd W W.heap.size D1 M (l.take M)) := fun W hW => (HR1.out.1.below (((HB0.out.trans (B5.out.mono (Nat.le_succ _))).trans (hW.mono (by have := HW3.out; omega))).mono HH.out.1)).more (by have := hW.size; have := HW3.out; have := HH.out.1; omega)
      have hd4 : d2.length ≤ 4096 := (blkOk_iff.1 hok).2.2.2.2
      have hcc : 0 ≤ cc ∧ cc ≤ 2 := (blkOk_iff.1 hok).2.2.2.1
      have hlen : (blkW ⟨t, nn, f, cc, d2⟩).length ≤ 140737488355328 := by unfold blkW; rw [List.length_append, sumB_len]; have := body_len ⟨t, nn, f, cc, d2⟩; have := sumN_le cc; simp only at *; omega
      have hsle : sumN cc ≤ (blkW ⟨t, nn, f, cc, d2⟩).length := by unfold blkW; rw [List.length_append, sumB_len]; exact Nat.le_add_left _ _
      have CW := Lib.hid (fun W (hW : Below w3.heap.size w3 W) => bwrite_any ⟨t, nn, f, cc, d2⟩ A2 nd2 cd2 w3.heap.size W hok HBD.out.1 hW.size (hr3.below hW))
      have CS := Lib.hid (fun W => sumsize_any cc W)
      have HDC := Lib.hid (decB_cmp HD.out (by rw [HT.out]; exact hok))
      rw [HT.out] at HDC
      have hbL : ∀ k, k = (blkW ⟨t, nn, f, cc, d2⟩).length → (blkW ⟨t, nn, f, cc, d2⟩).length = k := fun k h => h.symm
      obtain ⟨NB0, hNB⟩ : ∃ k, (blkW ⟨t, nn, f, cc, d2⟩).length = k := ⟨_, rfl⟩
      have HBL := Lib.hid hNB
      rw [hNB] at hlen hsle
      clear hr3 hd4 hcc hb hb5 hb6 hbL
      by_cases hz : cmpB (l.take M) (blkW ⟨t, nn, f, cc, d2⟩) (sumN cc) = 0
      · have HDD : Hid (decB l = (⟨t, nn, f, cc, d2⟩, (M : Int), 0)) := by show _ = _; rw [HDC.out, if_neg (by rw [hz]; simp)]
        clear HDC
        have C8 := Lib.hid (fun (A' : Option Addr) (c' : Nat) (W : World) (hr1 : Rd W W.heap.size D1 M (l.take M)) (hr2 : Rd W W.heap.size A' NB0 (blkW ⟨t, nn, f, cc, d2⟩)) (hc' : NB0 ≤ c') => compare_ok D1 A' M d1 NB0 c' (sumN cc) (l.take M) (blkW ⟨t, nn, f, cc, d2⟩) W hr1 HR1.out.2.1 hr2 hc' hsle (Nat.le_trans HR1.out.2.2 HH.out.2.1) hlen hz)
        clear hz hsle hlen hok hNB
        go_wp2_with fail
        go_region_held3 (fun W => W.cell? ⟨w2.heap.size, 0, none⟩ = some (.int .u64 (t : Int)) ∧ W.cell? ⟨w2.heap.size, 1, none⟩ = some (.int .u64 (nn : Int)) ∧ W.cell? ⟨w2.heap.size, 2, none⟩ = some (.int .u64 (f : Int)) ∧ W.cell? ⟨w2.heap.size, 3, none⟩ = some (.int .i64 cc) ∧ W.cell? ⟨w2.heap.size, 4, none⟩ = some (.slice A2 nd2 cd2))
          (first | (with_reducible exact ⟨x80, x81, x82, x83, x84⟩) | (with_reducible exact ⟨x70, x71, x72, x73, x74⟩) | (with_reducible exact ⟨x60, x61, x62, x63, x64⟩) | (with_reducible exact ⟨gd0, gd1, gd2, gd3, gd4⟩) | fail)
          (first
            | (go_at_call 148; refine (C8.out _ _ _ (R7.out.more (Nat.le_refl _)) S7.out HC4.out).mono ?_; rintro e w8 ⟨rfl, hb8⟩; have hb8' := B7.out.trans (hb8.mono B7.out.size); have x80 := (hb8'.cell (p := ⟨w2.heap.size, 0, none⟩) hlt3).trans g0; have x81 := (hb8'.cell (p := ⟨w2.heap.size, 1, none⟩) hlt3).trans g1; have x82 := (hb8'.cell (p := ⟨w2.heap.size, 2, none⟩) hlt3).trans g2; have x83 := (hb8'.cell (p := ⟨w2.heap.size, 3, none⟩) hlt3).trans g3; have x84 := (hb8'.cell (p := ⟨w2.heap.size, 4, none⟩) hlt3).trans g4; have B8 := Lib.hid hb8'; clear hb8 hb8')
            | (go_at_call 134; refine (CS.out _).mono ?_; rintro e w7 ⟨rfl, hb7⟩; have hb7' := B6.out.trans (hb7.mono B6.out.size); have x70 := (hb7'.cell (p := ⟨w2.heap.size, 0, none⟩) hlt3).trans g0; have x71 := (hb7'.cell (p := ⟨w2.heap.size, 1, none⟩) hlt3).trans g1; have x72 := (hb7'.cell (p := ⟨w2.heap.size, 2, none⟩) hlt3).trans g2; have x73 := (hb7'.cell (p := ⟨w2.heap.size, 3, none⟩) hlt3).trans g3; have x74 := (hb7'.cell (p := ⟨w2.heap.size, 4, none⟩) hlt3).trans g4; have B7 := Lib.hid hb7'; have R7 := Lib.hid ((R3.out _ hb7')); have S7 := Lib.hid ((S6.out.below hb7).more hb7.size); clear hb7 hb7')
            | (go_at_call 84; refine (CW.out _ (Below.drew_)).mono ?_; rintro e w6 ⟨v6, rfl, ho6, hb6⟩; have hb6' : Below w3.heap.size w3 w6 := Below.drew_.trans hb6; have x60 := (hb6'.cell (p := ⟨w2.heap.size, 0, none⟩) hlt3).trans g0; have x61 := (hb6'.cell (p := ⟨w2.heap.size, 1, none⟩) hlt3).trans g1; have x62 := (hb6'.cell (p := ⟨w2.heap.size, 2, none⟩) hlt3).trans g2; have x63 := (hb6'.cell (p := ⟨w2.heap.size, 3, none⟩) hlt3).trans g3; have x64 := (hb6'.cell (p := ⟨w2.heap.size, 4, none⟩) hlt3).trans g4; obtain ⟨A4, c4, rfl, hc4, -, hr4⟩ := ho6.rd; rw [HBL.out] at hr4 hc4 ⊢; have B6 := Lib.hid hb6'; have S6 := Lib.hid hr4; have HC4 := Lib.hid hc4; clear hb6 hb6' ho6 hr4 hc4)
            | fail)
        have hbE := B5.out.trans (B8.out.mono HW3.out)
        obtain ⟨⟨z0, z1, z2, z3, z4⟩, f0, f1, f2, f3, f4⟩ := HZ.out _ hbE
        have BE := Lib.hid hbE
        have RE := Lib.hid ((HR3.out.below B8.out).more B8.out.size)
        clear hbE
        unfold bfl at *
        go_wp2_with fail
        refine bodyPost_ret (v := .tuple #[blkV t nn f cc A2 nd2 cd2, .int .i64 (M : Int), .nilIface]) (by simp [results, Tryz.results128, go_sem, z0, z1, z2, z3, z4, blkV]) rfl ⟨below_put5 (HB0.out.trans (BE.out.mono (Nat.le_succ _))) (Nat.le_refl _), .inl ⟨⟨t, nn, f, cc, d2⟩, A2, nd2, cd2, (M : Int), rfl, HDD.out, HBD.out.1, HBD.out.2, ?_, fun hn b o e => Nat.le_of_succ_le (HFR.out hn b o e)⟩⟩
        exact Rd.put5 RE.out (by simp [World.setCell]) (RE.out.off5 (HZB.out _ BE.out))
      · have HDD : Hid (decB l = (.zero, 0, cmpB (l.take M) (blkW ⟨t, nn, f, cc, d2⟩) (sumN cc))) := by show _ = _; rw [HDC.out, if_pos hz]
        clear HDC
        have C8 := Lib.hid (fun (A' : Option Addr) (c' : Nat) (W : World) (hr1 : Rd W W.heap.size D1 M (l.take M)) (hr2 : Rd W W.heap.size A' NB0 (blkW ⟨t, nn, f, cc, d2⟩)) (hc' : NB0 ≤ c') => compare_no D1 A' M d1 NB0 c' (sumN cc) (l.take M) (blkW ⟨t, nn, f, cc, d2⟩) W hr1 HR1.out.2.1 hr2 hc' hsle (Nat.le_trans HR1.out.2.2 HH.out.2.1) hlen hz)
        have HZC := Lib.hid hz
        generalize hZC : cmpB (l.take M) (blkW ⟨t, nn, f, cc, d2⟩) (sumN cc) = ZC at *
        clear hz hZC hsle hlen hok hNB
        go_wp2_with fail
        go_region_held3 (fun W => W.cell? ⟨w2.heap.size, 0, none⟩ = some (.int .u64 (t : Int)) ∧ W.cell? ⟨w2.heap.size, 1, none⟩ = some (.int .u64 (nn : Int)) ∧ W.cell? ⟨w2.heap.size, 2, none⟩ = some (.int .u64 (f : Int)) ∧ W.cell? ⟨w2.heap.size, 3, none⟩ = some (.int .i64 cc) ∧ W.cell? ⟨w2.heap.size, 4, none⟩ = some (.slice A2 nd2 cd2))
          (first | (with_reducible exact ⟨x80, x81, x82, x83, x84⟩) | (with_reducible exact ⟨x70, x71, x72, x73, x74⟩) | (with_reducible exact ⟨x60, x61, x62, x63, x64⟩) | (with_reducible exact ⟨gd0, gd1, gd2, gd3, gd4⟩) | fail)
          (first
            | (go_at_call 148; refine (C8.out _ _ _ (R7.out.more (Nat.le_refl _)) S7.out HC4.out).mono ?_; rintro e w8 ⟨q8, rfl, hb8⟩; have hb8' := B7.out.trans (hb8.mono B7.out.size); have x80 := (hb8'.cell (p := ⟨w2.heap.size, 0, none⟩) hlt3).trans g0; have x81 := (hb8'.cell (p := ⟨w2.heap.size, 1, none⟩) hlt3).trans g1; have x82 := (hb8'.cell (p := ⟨w2.heap.size, 2, none⟩) hlt3).trans g2; have x83 := (hb8'.cell (p := ⟨w2.heap.size, 3, none⟩) hlt3).trans g3; have x84 := (hb8'.cell (p := ⟨w2.heap.size, 4, none⟩) hlt3).trans g4; have B8 := Lib.hid hb8'; clear hb8 hb8')
            | (go_at_call 134; refine (CS.out _).mono ?_; rintro e w7 ⟨rfl, hb7⟩; have hb7' := B6.out.trans (hb7.mono B6.out.size); have x70 := (hb7'.cell (p := ⟨w2.heap.size, 0, none⟩) hlt3).trans g0; have x71 := (hb7'.cell (p := ⟨w2.heap.size, 1, none⟩) hlt3).trans g1; have x72 := (hb7'.cell (p := ⟨w2.heap.size, 2, none⟩) hlt3).trans g2; have x73 := (hb7'.cell (p := ⟨w2.heap.size, 3, none⟩) hlt3).trans g3; have x74 := (hb7'.cell (p := ⟨w2.heap.size, 4, none⟩) hlt3).trans g4; have B7 := Lib.hid hb7'; have R7 := Lib.hid ((R3.out _ hb7')); have S7 := Lib.hid ((S6.out.below hb7).more hb7.size); clear hb7 hb7')
            | (go_at_call 84; refine (CW.out _ (Below.drew_)).mono ?_; rintro e w6 ⟨v6, rfl, ho6, hb6⟩; have hb6' : Below w3.heap.size w3 w6 := Below.drew_.trans hb6; have x60 := (hb6'.cell (p := ⟨w2.heap.size, 0, none⟩) hlt3).trans g0; have x61 := (hb6'.cell (p := ⟨w2.heap.size, 1, none⟩) hlt3).trans g1; have x62 := (hb6'.cell (p := ⟨w2.heap.size, 2, none⟩) hlt3).trans g2; have x63 := (hb6'.cell (p := ⟨w2.heap.size, 3, none⟩) hlt3).trans g3; have x64 := (hb6'.cell (p := ⟨w2.heap.size, 4, none⟩) hlt3).trans g4; obtain ⟨A4, c4, rfl, hc4, -, hr4⟩ := ho6.rd; rw [HBL.out] at hr4 hc4 ⊢; have B6 := Lib.hid hb6'; have S6 := Lib.hid hr4; have HC4 := Lib.hid hc4; clear hb6 hb6' ho6 hr4 hc4)
            | fail)
        have hbE := B5.out.trans (B8.out.mono HW3.out)
        obtain ⟨⟨z0, z1, z2, z3, z4⟩, f0, f1, f2, f3, f4⟩ := HZ.out _ hbE
        have BE := Lib.hid hbE
        have RE := Lib.hid ((HR3.out.below B8.out).more B8.out.size)
        clear hbE
        unfold bfl at *
        go_wp2_with fail
        refine bodyPost_ret (v := .tuple #[blkV 0 0 0 0 none 0 0, .int .i64 0, bfl ZC q8]) (by simp [results, Tryz.results128, go_sem, z0, z1, z2, z3, z4, blkV, bfl]) rfl ⟨below_put5 (HB0.out.trans (BE.out.mono (Nat.le_succ _))) (Nat.le_refl _), .inr ⟨ZC, q8, HZC.out, HDD.out, rfl⟩⟩
    · have hb5 := B4.out.trans (hb.mono (by have := HW1.out; have := HW2.out; simp; omega))
      obtain ⟨⟨z0, z1, z2, z3, z4⟩, f0, f1, f2, f3, f4⟩ := HZ.out _ hb5
      have B5 := Lib.hid hb5
      have HDD := Lib.hid (decB_not HD.out (by rw [HT.out]; exact hok))
      clear hb hb5 hok
      unfold bfl at *
      go_wp2_with fail
      refine bodyPost_ret (v := .tuple #[blkV 0 0 0 0 none 0 0, .int .i64 0, bfl 50 s]) (by simp [results, Tryz.results128, go_sem, z0, z1, z2, z3, z4, blkV, bfl]) rfl ⟨below_put5 (HB0.out.trans (B5.out.mono (Nat.le_succ _))) (Nat.le_refl _), .inr ⟨50, s, by decide, HDD.out, rfl⟩⟩
def DecS (l : List UInt8) (w : World) (e : Ending) (w' : World) : Prop := Below w.heap.size w w' ∧
  ∃ (b : Blk) (A : Option Addr) (nd cd : Nat) (N z : Int), e = .returned (.tuple #[blkV b.typ b.num b.flg b.crc A nd cd, .int .i64 N, .int .i64 z]) ∧ decB l = (b, N, z) ∧ Bd b ∧ (nd ≤ cd ∧ nd ≤ 140737488355328) ∧ Rd w' w'.heap.size A nd b.dat ∧ (0 < nd → ∀ b o, A = some ⟨b, o, none⟩ → w.heap.size ≤ b)
set_option maxRecDepth 100000 in
set_option maxHeartbeats 8000000 in
theorem bdecodeS_any (A : Option Addr) (n c B : Nat) (l : List UInt8) (w : World) (hB : B ≤ w.heap.size) (h : Rd w B A n l) (hn : n ≤ 140737488355328) (hc : n ≤ c) (hL : LaidE w) :
    Calls Tryz.prog 108 #[.slice A n c] w (DecS l w) := by
  have HB0 := Lib.hid ((Below.refl w.heap.size w).alloc (Nat.le_refl _) (.cells #[.int .u64 0, .int .u64 0, .int .u64 0, .int .i64 0, .slice none 0 0] 44))
  have HLT := Lib.hid hL.lt
  have HL := Lib.hid hL
  have C1 := Lib.hid (breadS_any A n c B l (w.alloc (.cells #[.int .u64 0, .int .u64 0, .int .u64 0, .int .i64 0, .slice none 0 0] 44)) (Nat.le_trans hB (le_alloc _ _)) (h.alloc hB _) hn hc (hL.below HB0.out hL.lt))
  have HZ := Lib.hid (fun (W : World) (hb : Below (w.heap.size + 1) (w.alloc (.cells #[.int .u64 0, .int .u64 0, .int .u64 0, .int .i64 0, .slice none 0 0] 44)) W) => zero5 (g := w.heap.size) rfl hb)
  have HZB : Hid (∀ (W : World) (_ : Below (w.heap.size + 1) (w.alloc (.cells #[.int .u64 0, .int .u64 0, .int .u64 0, .int .i64 0, .slice none 0 0] 44)) W), W.heap[w.heap.size]? = some (.cells #[.int .u64 0, .int .u64 0, .int .u64 0, .int .i64 0, .slice none 0 0] 44 (0, 0))) := fun W hb => by
    rw [hb.block w.heap.size (Nat.lt_succ_self _)]; exact heap_alloc_new w _
  have hs0 : (w.alloc (.cells #[.int .u64 0, .int .u64 0, .int .u64 0, .int .i64 0, .slice none 0 0] 44)).heap.size = w.heap.size + 1 := by simp
  clear h hB hn hc hL
  go_enter Tryz.func108, Tryz.ntmps108
  go_wp2_with fail
  refine C1.out.mono ?_
  rintro e w1 ⟨hb1, ⟨b, A1, nd, cd, N, rfl, hd, hbd, hnd, hr, hfr⟩ | ⟨z, s, hz, hd, rfl⟩⟩
  · rw [hs0] at hb1
    have hw1 : w.heap.size + 1 ≤ w1.heap.size := by have := hb1.size; rw [hs0] at this; exact this
    have HNE : Hid (¬ w.heap.size = w1.heap.size) := fun h => by omega
    have hb2 := hb1.alloc hw1 (.cells #[.int .u64 (b.typ : Int), .int .u64 (b.num : Int), .int .u64 (b.flg : Int), .int .i64 b.crc, .slice A1 nd cd] 44)
    have hlt1 : w1.heap.size < (w1.alloc (.cells #[.int .u64 (b.typ : Int), .int .u64 (b.num : Int), .int .u64 (b.flg : Int), .int .i64 b.crc, .slice A1 nd cd] 44)).heap.size := by simp
    obtain ⟨g0, g1, g2, g3, g4⟩ := box5 rfl (Below.refl (w1.heap.size + 1) (w1.alloc (.cells #[.int .u64 (b.typ : Int), .int .u64 (b.num : Int), .int .u64 (b.flg : Int), .int .i64 b.crc, .slice A1 nd cd] 44)))
    have gd0 := drew_cell g0
    have gd1 := drew_cell g1
    have gd2 := drew_cell g2
    have gd3 := drew_cell g3
    have gd4 := drew_cell g4
    have B2 := Lib.hid hb2
    have hs2 : (w1.alloc (.cells #[.int .u64 (b.typ : Int), .int .u64 (b.num : Int), .int .u64 (b.flg : Int), .int .i64 b.crc, .slice A1 nd cd] 44)).heap.size = w1.heap.size + 1 := by simp
    have HS2 := Lib.hid hs2
    have HW1 := Lib.hid hw1
    have HFR : Hid (0 < nd → ∀ b o, A1 = some ⟨b, o, none⟩ → w.heap.size ≤ b) := fun hn b o e => Nat.le_of_succ_le (by have := hfr hn b o e; rw [hs0] at this; exact this)
    clear hfr
    have HD := Lib.hid hd
    have HLL := Lib.hid (HL.out.below (HB0.out.trans (hb2.mono (Nat.le_succ _))) HLT.out)
    have HR1 := Lib.hid (And.intro hbd (And.intro hnd hr))
    have CN : Hid (∀ W, Below (w1.alloc (.cells #[.int .u64 (b.typ : Int), .int .u64 (b.num : Int), .int .u64 (b.flg : Int), .int .i64 b.crc, .slice A1 nd cd] 44)).heap.size (w1.alloc (.cells #[.int .u64 (b.typ : Int), .int .u64 (b.num : Int), .int .u64 (b.flg : Int), .int .i64 b.crc, .slice A1 nd cd] 44)) W → Calls Tryz.prog 83 #[.nilIface] W fun e w' => e = .returned (.int .i64 0) ∧ Below W.heap.size W w') := fun W _ => bnumber_nil W
    have HR2 : Hid (Rd (w1.alloc (.cells #[.int .u64 (b.typ : Int), .int .u64 (b.num : Int), .int .u64 (b.flg : Int), .int .i64 b.crc, .slice A1 nd cd] 44)) w1.heap.size A1 nd b.dat) := hr.alloc (Nat.le_refl _) _
    clear hbd hnd hr
    clear hb1 hb2 hw1 hs2 hd
    unfold blkV at *
    go_wp2_with fail
    generalize (w1.alloc (.cells #[.int .u64 (b.typ : Int), .int .u64 (b.num : Int), .int .u64 (b.flg : Int), .int .i64 b.crc, .slice A1 nd cd] 44)) = W2 at *
    go_region_held3 (fun W => W.cell? ⟨w1.heap.size, 0, none⟩ = some (.int .u64 (b.typ : Int)) ∧ W.cell? ⟨w1.heap.size, 1, none⟩ = some (.int .u64 (b.num : Int)) ∧ W.cell? ⟨w1.heap.size, 2, none⟩ = some (.int .u64 (b.flg : Int)) ∧ W.cell? ⟨w1.heap.size, 3, none⟩ = some (.int .i64 b.crc) ∧ W.cell? ⟨w1.heap.size, 4, none⟩ = some (.slice A1 nd cd))
      (first | (with_reducible exact ⟨put5_cell x30 HNE.out, put5_cell x31 HNE.out, put5_cell x32 HNE.out, put5_cell x33 HNE.out, put5_cell x34 HNE.out⟩) | (with_reducible exact ⟨x30, x31, x32, x33, x34⟩) | (with_reducible exact ⟨gd0, gd1, gd2, gd3, gd4⟩) | fail)
      (first
        | (go_at_call 83; refine (CN.out _ (Below.drew_)).mono ?_; rintro e w3 ⟨rfl, hb3⟩; have hb3' : Below W2.heap.size W2 w3 := Below.drew_.trans hb3; have x30 := (hb3'.cell (p := ⟨w1.heap.size, 0, none⟩) hlt1).trans g0; have x31 := (hb3'.cell (p := ⟨w1.heap.size, 1, none⟩) hlt1).trans g1; have x32 := (hb3'.cell (p := ⟨w1.heap.size, 2, none⟩) hlt1).trans g2; have x33 := (hb3'.cell (p := ⟨w1.heap.size, 3, none⟩) hlt1).trans g3; have x34 := (hb3'.cell (p := ⟨w1.heap.size, 4, none⟩) hlt1).trans g4; have hbE := B2.out.trans (hb3'.mono (by have := HS2.out; have := HW1.out; omega)); obtain ⟨⟨z0, z1, z2, z3, z4⟩, f0, f1, f2, f3, f4⟩ := HZ.out _ hbE; have BE := Lib.hid hbE; have B3 := Lib.hid hb3'; clear hb3 hb3' hbE)
        | fail)
    go_wp2_with fail
    have RE := HR2.out.below (B3.out.mono (by have := HS2.out; omega))
    refine bodyPost_ret (v := .tuple #[blkV b.typ b.num b.flg b.crc A1 nd cd, .int .i64 N, .int .i64 0]) (by simp [results, Tryz.results108, go_sem, z0, z1, z2, z3, z4, blkV]) rfl ⟨below_put5 (HB0.out.trans (BE.out.mono (Nat.le_succ _))) (Nat.le_refl _), b, A1, nd, cd, N, 0, rfl, HD.out, HR1.out.1, HR1.out.2.1, ?_, HFR.out⟩
    exact Rd.put5 RE (by have := B3.out.size; have := HS2.out; simp [World.setCell]; omega) (RE.off5 (HZB.out _ BE.out))
  · rw [hs0] at hb1
    have hw1 : w.heap.size + 1 ≤ w1.heap.size := by have := hb1.size; rw [hs0] at this; exact this
    have HNE : Hid (¬ w.heap.size = w1.heap.size) := fun h => by omega
    have hb2 := hb1.alloc hw1 (.cells #[.int .u64 0, .int .u64 0, .int .u64 0, .int .i64 0, .slice none 0 0] 44)
    have hlt1 : w1.heap.size < (w1.alloc (.cells #[.int .u64 0, .int .u64 0, .int .u64 0, .int .i64 0, .slice none 0 0] 44)).heap.size := by simp
    obtain ⟨g0, g1, g2, g3, g4⟩ := box5 rfl (Below.refl (w1.heap.size + 1) (w1.alloc (.cells #[.int .u64 0, .int .u64 0, .int .u64 0, .int .i64 0, .slice none 0 0] 44)))
    have gd0 := drew_cell g0
    have gd1 := drew_cell g1
    have gd2 := drew_cell g2
    have gd3 := drew_cell g3
    have gd4 := drew_cell g4
    have B2 := Lib.hid hb2
    have hs2 : (w1.alloc (.cells #[.int .u64 0, .int .u64 0, .int .u64 0, .int .i64 0, .slice none 0 0] 44)).heap.size = w1.heap.size + 1 := by simp
    have HS2 := Lib.hid hs2
    have HW1 := Lib.hid hw1
    have HD := Lib.hid hd
    have HLL := Lib.hid (HL.out.below (HB0.out.trans (hb2.mono (Nat.le_succ _))) HLT.out)
    have CN : Hid (∀ W, Below (w1.alloc (.cells #[.int .u64 0, .int .u64 0, .int .u64 0, .int .i64 0, .slice none 0 0] 44)).heap.size (w1.alloc (.cells #[.int .u64 0, .int .u64 0, .int .u64 0, .int .i64 0, .slice none 0 0] 44)) W → Calls Tryz.prog 83 #[bfl z s] W fun e w' => e = .returned (.int .i64 z) ∧ Below W.heap.size W w') := fun W hW => bnumber_any z s W (HLL.out.below hW HLL.out.lt)
    clear hb1 hb2 hw1 hs2 hd
    unfold blkV bfl at *
    go_wp2_with fail
    generalize (w1.alloc (.cells #[.int .u64 0, .int .u64 0, .int .u64 0, .int .i64 0, .slice none 0 0] 44)) = W2 at *
    go_region_held3 (fun W => W.cell? ⟨w1.heap.size, 0, none⟩ = some (.int .u64 0) ∧ W.cell? ⟨w1.heap.size, 1, none⟩ = some (.int .u64 0) ∧ W.cell? ⟨w1.heap.size, 2, none⟩ = some (.int .u64 0) ∧ W.cell? ⟨w1.heap.size, 3, none⟩ = some (.int .i64 0) ∧ W.cell? ⟨w1.heap.size, 4, none⟩ = some (.slice none 0 0))
      (first | (with_reducible exact ⟨put5_cell x30 HNE.out, put5_cell x31 HNE.out, put5_cell x32 HNE.out, put5_cell x33 HNE.out, put5_cell x34 HNE.out⟩) | (with_reducible exact ⟨x30, x31, x32, x33, x34⟩) | (with_reducible exact ⟨gd0, gd1, gd2, gd3, gd4⟩) | fail)
      (first
        | (go_at_call 83; refine (CN.out _ (Below.drew_)).mono ?_; rintro e w3 ⟨rfl, hb3⟩; have hb3' : Below W2.heap.size W2 w3 := Below.drew_.trans hb3; have x30 := (hb3'.cell (p := ⟨w1.heap.size, 0, none⟩) hlt1).trans g0; have x31 := (hb3'.cell (p := ⟨w1.heap.size, 1, none⟩) hlt1).trans g1; have x32 := (hb3'.cell (p := ⟨w1.heap.size, 2, none⟩) hlt1).trans g2; have x33 := (hb3'.cell (p := ⟨w1.heap.size, 3, none⟩) hlt1).trans g3; have x34 := (hb3'.cell (p := ⟨w1.heap.size, 4, none⟩) hlt1).trans g4; have hbE := B2.out.trans (hb3'.mono (by have := HS2.out; have := HW1.out; omega)); obtain ⟨⟨z0, z1, z2, z3, z4⟩, f0, f1, f2, f3, f4⟩ := HZ.out _ hbE; have BE := Lib.hid hbE; have B3 := Lib.hid hb3'; clear hb3 hb3' hbE)
        | fail)
    go_wp2_with fail
    refine bodyPost_ret (v := .tuple #[blkV 0 0 0 0 none 0 0, .int .i64 0, .int .i64 z]) (by simp [results, Tryz.results108, go_sem, z0, z1, z2, z3, z4, blkV]) rfl ⟨below_put5 (HB0.out.trans (BE.out.mono (Nat.le_succ _))) (Nat.le_refl _), Blk.zero, none, 0, 0, 0, z, rfl, HD.out, ⟨by decide, by decide, by decide⟩, ⟨Nat.le_refl _, by decide⟩, Rd.nil_, fun h => absurd h (Nat.lt_irrefl 0)⟩
end Go.Proofs.YtoggkjoadiombaaGreatDoor
/- What readBlocks of layer 6 returns. (Made by gen/bun.py.) -/
namespace Go.Proofs.YtoggkjoadiombaaGreatDoor
open Go.RowKit
theorem blkW_first0 (b : Blk) (m r : List UInt8) : blkW b ++ m ≠ 0xff :: r := by
  unfold blkW bodyB
  by_cases h : b.crc = 0
  · rw [if_pos h]; intro e; simp [hd, hlow] at e
  · rw [if_neg h]; intro e; simp [hd, hlow] at e
/-! ### Rows of blocks of one's own -/
structure PK where
  x : Blk
  A : Option Addr
  nd : Nat
  cd : Nat
def fiveK (p : PK) : List Value := [.int .u64 (p.x.typ : Int), .int .u64 (p.x.num : Int), .int .u64 (p.x.flg : Int), .int .i64 p.x.crc, .slice p.A p.nd p.cd]
def rowK : List PK → List Value
  | [] => []
  | p :: r => fiveK p ++ rowK r
theorem rowK_app : ∀ a b : List PK, rowK (a ++ b) = rowK a ++ rowK b
  | [], b => rfl
  | p :: r, b => by rw [List.cons_append, rowK, rowK, rowK_app r b, List.append_assoc]
theorem rowK_len : ∀ a : List PK, (rowK a).length = a.length * 5
  | [] => rfl
  | p :: r => by rw [rowK, List.length_append, rowK_len r, List.length_cons]; simp [fiveK]; omega
theorem rowK_one : ∀ (a : List PK), ∀ v ∈ rowK a, v.oneCell' = true
  | [], v, h => by cases h
  | p :: r, v, h => by
    rw [rowK, List.mem_append] at h
    rcases h with h | h
    · simp only [fiveK, List.mem_cons, List.not_mem_nil, or_false] at h
      rcases h with rfl | rfl | rfl | rfl | rfl <;> rfl
    · exact rowK_one r v h
structure OkK (lo : Nat) (w : World) (v : Value) (p : PK) : Prop where
  bd : Bd p.x
  le : p.nd ≤ p.cd ∧ p.nd ≤ 140737488355328
  rd : Rd w w.heap.size p.A p.nd p.x.dat
  far : 0 < p.nd → ∀ b o, p.A = some ⟨b, o, none⟩ → v.ownBlock ≠ some b
  new : 0 < p.nd → ∀ b o, p.A = some ⟨b, o, none⟩ → lo ≤ b
theorem OkK.go {lo : Nat} {w w' : World} {v v' : Value} {p : PK} (h : OkK lo w v p) (hsz : w.heap.size ≤ w'.heap.size) (hb : ∀ j, j < w.heap.size → v.ownBlock ≠ some j → w'.heap[j]? = w.heap[j]?)
    (hv : ∀ j, j < w.heap.size → v.ownBlock ≠ some j → v'.ownBlock ≠ some j) : OkK lo w' v' p :=
  ⟨h.bd, h.le, ⟨h.rd.1, fun hn => by
    obtain ⟨b, o, e, hlt, hc⟩ := h.rd.2 hn
    exact ⟨b, o, e, Nat.lt_of_lt_of_le hlt hsz, fun i hi => (World.cell?_of_block (a := ⟨b, o + i, none⟩) (hb b hlt (h.far hn b o e))).trans (hc i hi)⟩⟩, fun hn b o e => by
    obtain ⟨b', o', e', hlt, -⟩ := h.rd.2 hn
    rw [e] at e'
    cases e'
    exact hv b hlt (h.far hn b o e), h.new⟩
theorem OkK.below {lo : Nat} {w w' : World} {v : Value} {p : PK} (h : OkK lo w v p) (hb : Below w.heap.size w w') : OkK lo w' v p :=
  h.go hb.size (fun j hj _ => hb.block j hj) (fun _ _ h => h)
theorem Rd.sub_ {w w' : World} {B B' n : Nat} {A : Option Addr} {l : List UInt8} (h : Rd w B A n l) (hs : ∀ p u, w.cell? p = some u → w'.cell? p = some u) (hB : B ≤ B') : Rd w' B' A n l :=
  ⟨h.1, fun hn => by obtain ⟨b, o, e, hb, hc⟩ := h.2 hn; exact ⟨b, o, e, Nat.lt_of_lt_of_le hb hB, fun i hi => hs _ _ (hc i hi)⟩⟩
theorem RdKs.sub_ {w w' : World} {B B' b : Nat} (hs : ∀ p u, w.cell? p = some u → w'.cell? p = some u) (hB : B ≤ B') : ∀ {l : List Blk} {o : Nat}, RdKs w B b o l → RdKs w' B' b o l
  | [], _, _ => trivial
  | _ :: _, _, ⟨⟨A, nd, cd, h⟩, hr⟩ => ⟨⟨A, nd, cd, ⟨hs _ _ h.k0, hs _ _ h.k1, hs _ _ h.k2, hs _ _ h.k3, hs _ _ h.k4, h.bd, h.le, h.rd.sub_ hs hB⟩⟩, RdKs.sub_ hs hB hr⟩
theorem RdL.sub_ {w w' : World} {B B' n : Nat} {A : Option Addr} {l : List Blk} (h : RdL w B A n l) (hs : ∀ p u, w.cell? p = some u → w'.cell? p = some u) (hB : B ≤ B') : RdL w' B' A n l :=
  ⟨h.1, fun hn => by obtain ⟨b, o, e, h1, h2⟩ := h.2.1 hn; exact ⟨b, o, e, Nat.lt_of_lt_of_le h1 hB, RdKs.sub_ hs hB h2⟩, h.2.2⟩
theorem RdL.maskgo {lo lo' B n : Nat} {w w' : World} {A : Option Addr} {l : List Blk} (h : RdL (mask (lows lo) w) B A n l) (hl : lo' ≤ lo) (hw : ∀ p : Addr, lo ≤ p.block → ∀ u, w.cell? p = some u → w'.cell? p = some u) {B' : Nat} (hB : B ≤ B') : RdL (mask (lows lo') w') B' A n l :=
  h.sub_ (fun p u hc => by
    have h1 := lows_f.1 (mask_out hc)
    exact (mask_cell (lows_f.2 (Nat.le_trans hl h1))).trans (hw p h1 u (mask_sub hc))) hB
theorem RdL.unmask_ {S : Nat → Bool} {w : World} {B n : Nat} {A : Option Addr} {l : List Blk} (h : RdL (mask S w) B A n l) : RdL w B A n l := h.sub_ (fun _ _ hc => mask_sub hc) (Nat.le_refl _)
theorem blkWs_uniq : ∀ {xs ys : List Blk} {r t : List UInt8}, (∀ x ∈ xs, blkOk x = true ∧ Bd x) → (∀ y ∈ ys, blkOk y = true ∧ Bd y) → blkWs xs ++ 0xff :: r = blkWs ys ++ 0xff :: t → xs = ys ∧ r = t
  | [], [], _, _, _, _, h => by
    simp only [blkWs, List.nil_append, List.cons.injEq, true_and] at h
    exact ⟨rfl, h⟩
  | [], y :: ys, r, t, _, _, h => by
    rw [blkWs, blkWs, List.nil_append, List.append_assoc] at h
    exact absurd h.symm (blkW_first0 y _ _)
  | x :: xs, [], r, t, _, _, h => by
    rw [blkWs, blkWs, List.nil_append, List.append_assoc] at h
    exact absurd h (blkW_first0 x _ _)
  | x :: xs, y :: ys, r, t, hx, hy, h => by
    rw [blkWs, blkWs, List.append_assoc, List.append_assoc] at h
    have h1 := decB_blk x (blkWs xs ++ 0xff :: r) (hx x (by simp)).1 (hx x (by simp)).2
    have h2 := decB_blk y (blkWs ys ++ 0xff :: t) (hy y (by simp)).1 (hy y (by simp)).2
    rw [h, h2] at h1
    simp only [Prod.mk.injEq] at h1
    obtain ⟨rfl, -⟩ := h1
    have h3 := List.append_cancel_left h
    obtain ⟨rfl, rfl⟩ := blkWs_uniq (fun q hq => hx q (by simp [hq])) (fun q hq => hy q (by simp [hq])) h3
    exact ⟨rfl, rfl⟩
theorem rowK_read {lo : Nat} {w : World} {b : Nat} {v : Value} (hb : lo ≤ b) : ∀ (ps : List PK) (o : Nat), (∀ j u, (rowK ps)[j]? = some u → w.cell? ⟨b, o + j, none⟩ = some u) → (∀ p ∈ ps, OkK lo w v p) → RdKs (mask (lows lo) w) w.heap.size b o (ps.map (·.x))
  | [], _, _, _ => trivial
  | p :: r, o, hc, ho => by
    have hp := ho p (by simp)
    have h0 : ∀ j u, (fiveK p)[j]? = some u → (mask (lows lo) w).cell? ⟨b, o + j, none⟩ = some u := fun j u hj => (mask_cell (lows_f.2 hb)).trans <| hc j u (by
      rw [rowK, List.getElem?_append_left]
      · exact hj
      · rcases Nat.lt_or_ge j (fiveK p).length with h | h
        · exact h
        · rw [List.getElem?_eq_none h] at hj; cases hj)
    refine ⟨⟨p.A, p.nd, p.cd, ⟨h0 0 _ rfl, h0 1 _ rfl, h0 2 _ rfl, h0 3 _ rfl, h0 4 _ rfl, hp.bd, hp.le, hp.rd.mask_any hp.new⟩⟩, rowK_read hb r (o + 5) (fun j u hj => ?_) (fun q hq => ho q (by simp [hq]))⟩
    rw [show o + 5 + j = o + (5 + j) by omega]
    refine hc (5 + j) u ?_
    rw [rowK, List.getElem?_append_right (by simp [fiveK])]
    simpa [fiveK] using hj
structure BkSt (w wr : World) (v : Value) (ps : List PK) : Prop where
  own : wr.ownsRow w.heap.size 44 5 v ps.length (rowK ps)
  ok : ∀ p ∈ ps, OkK w.heap.size wr v p
  bel : Below w.heap.size w wr
theorem BkSt.start (w : World) : BkSt w w (.slice none 0 0) [] := ⟨World.ownsRow_nil _ _ _ _, fun _ h => (by cases h), Below.refl _ _⟩
theorem BkSt.form {w wr : World} {v : Value} {ps : List PK} (h : BkSt w wr v ps) : ∃ A cp, v = .slice A ps.length cp ∧ ps.length ≤ cp := by
  rcases h.own.2 with ⟨hv, h0⟩ | ⟨q, cap, cur, hv, -, -, hnc, -⟩
  · exact ⟨none, 0, by rw [hv, h0], by omega⟩
  · exact ⟨_, _, hv, hnc⟩
theorem BkSt.on {w wr w1 : World} {v : Value} {ps : List PK} (h : BkSt w wr v ps) (hb : Below wr.heap.size wr w1) : BkSt w w1 v ps :=
  ⟨ownsRow_below h.own hb, fun p hp => (h.ok p hp).below hb, h.bel.trans (hb.mono h.bel.size)⟩
theorem BkSt.push {w wr w3 : World} {v : Value} {ps : List PK} (h : BkSt w wr v ps) {p : PK} (hp : OkK w.heap.size wr v p) {g cap m : Nat} (hm : ps.length = m) (hown : w3.ownsRow w.heap.size 44 5 (.slice (some ⟨g, 0, none⟩) (m + 1) cap) (m + 1) (rowK ps ++ fiveK p))
    (hgr : wr.grownBy w3 v.ownBlock) (hat : v.ownBlock = some g ∨ g = wr.heap.size) : BkSt w w3 (.slice (some ⟨g, 0, none⟩) (m + 1) cap) (ps ++ [p]) := by
  subst hm
  have hb : ∀ j, j < wr.heap.size → v.ownBlock ≠ some j → w3.heap[j]? = wr.heap[j]? := fun j hj hne => hgr.block j hj (fun e => hne e.symm)
  have hv : ∀ j, j < wr.heap.size → v.ownBlock ≠ some j → (Value.slice (some ⟨g, 0, none⟩) (ps.length + 1) cap).ownBlock ≠ some j := fun j hj hne e => by
    injection e with e
    have e' : g = j := e
    rcases hat with h2 | h2
    · exact hne (by rw [h2, e'])
    · omega
  refine ⟨?_, fun q hq => ?_, ?_⟩
  · rw [List.length_append, List.length_singleton, rowK_app, show rowK [p] = fiveK p by simp [rowK]]
    exact hown
  · rcases List.mem_append.1 hq with hq | hq
    · exact (h.ok q hq).go hgr.size hb hv
    · rw [List.mem_singleton] at hq
      subst hq
      exact hp.go hgr.size hb hv
  · refine ⟨hgr.os.trans h.bel.os, hgr.tape.trans h.bel.tape, hgr.output.trans h.bel.output, Nat.le_trans h.bel.size hgr.size, fun j hj => ?_⟩
    rw [hb j (Nat.lt_of_lt_of_le hj h.bel.size) (fun e => by have := (World.ownsRow.lt h.own j e).1; omega)]
    exact h.bel.block j hj
theorem BkSt.read {w wr : World} {A : Option Addr} {cp : Nat} {ps : List PK} (h : BkSt w wr (.slice A ps.length cp) ps) (hn : ps.length ≤ 140737488355328) : RdL (mask (lows w.heap.size) wr) wr.heap.size A ps.length (ps.map (·.x)) := by
  refine ⟨by simp, fun h0 => ?_, hn⟩
  rcases h.own.2 with ⟨hv, h1⟩ | ⟨q, cap, cur, hv, -⟩
  · omega
  · injection hv with hv _ _
    subst hv
    have hlt := World.ownsRow.lt h.own q rfl
    refine ⟨q, 0, rfl, hlt.2, rowK_read hlt.1 ps 0 (fun j u hj => ?_) h.ok⟩
    have hjl : j < ps.length * 5 := by
      rw [← rowK_len]
      rcases Nat.lt_or_ge j (rowK ps).length with h | h
      · exact h
      · rw [List.getElem?_eq_none h] at hj; cases hj
    rw [Nat.zero_add, World.ownsRow.cellAt h.own j hjl]
    exact hj
/-! ### Which blocks bytes are -/
theorem decB_sound {l : List UInt8} {b : Blk} {N : Int} (h : decB l = (b, N, 0)) : blkOk b = true ∧ N = ((blkW b).length : Int) ∧ l = blkW b ++ l.drop (blkW b).length := by
  unfold decB at h
  rcases decode_cases l with ⟨z, hz, hd⟩ | ⟨x, r, hl, -, -, hd⟩
  · rw [hd] at h
    rw [if_pos (by show z ≠ 0; omega)] at h
    simp at h
    omega
  · rw [hd] at h
    rw [if_neg (by simp)] at h
    by_cases hok : blkOk (takenB x) = false
    · rw [if_pos hok] at h; simp at h
    rw [if_neg hok] at h
    have hok' : blkOk (takenB x) = true := by simpa using hok
    simp only [Int.toNat_natCast] at h
    by_cases hc : cmpB (l.take (wri x).length) (blkW (takenB x)) (sumN (takenB x).crc) = 0
    · rw [if_neg (by simpa using hc)] at h
      simp only [Prod.mk.injEq, and_true] at h
      obtain ⟨h1, h2⟩ := h
      subst h1
      have he : l.take (wri x).length = blkW (takenB x) := by
        unfold cmpB at hc
        split at hc
        · cases hc
        · split at hc
          · cases hc
          · rename_i h1 h2
            have a1 : (l.take (wri x).length).take ((blkW (takenB x)).length - sumN (takenB x).crc) = (blkW (takenB x)).take ((blkW (takenB x)).length - sumN (takenB x).crc) := Classical.not_not.1 fun hh => h1 (.inr hh)
            have a2 := Classical.not_not.1 h2
            rw [← List.take_append_drop ((blkW (takenB x)).length - sumN (takenB x).crc) (blkW (takenB x)), ← a1, ← a2, List.take_append_drop]
      have hlen : (wri x).length = (blkW (takenB x)).length := by rw [← he, List.length_take, hl, List.length_append]; omega
      refine ⟨hok', by rw [← h2, hlen], ?_⟩
      rw [← hlen, ← he, List.take_append_drop]
    · rw [if_pos hc] at h
      simp only [Prod.mk.injEq] at h
      exact absurd h.2.2 hc
theorem blkW_first (b : Blk) (m r : List UInt8) : blkW b ++ m ≠ 0xff :: r := blkW_first0 b m r
theorem blkW_pos (b : Blk) : 0 < (blkW b).length := by unfold blkW; rw [List.length_append]; have := body_pos b; omega
def okBs (ys : List Blk) : Prop := ∀ y ∈ ys, blkOk y = true ∧ Bd y
def NoP (m : List UInt8) (k : Nat) : Prop := ∀ (ys : List Blk) (rest : List UInt8), okBs ys → ys.length ≤ k → m ≠ blkWs ys ++ 0xff :: rest
theorem NoP.step {m : List UInt8} {x : Blk} {k : Nat} (hd : decB m = (x, ((blkW x).length : Int), 0)) (hx : m = blkW x ++ m.drop (blkW x).length) (h : NoP (m.drop (blkW x).length) k) : NoP m (k + 1) := by
  intro ys rest hy hk e
  match ys, hy, hk, e with
  | [], _, _, e => exact blkW_first x _ rest (hx.symm.trans e)
  | y :: ys, hy, hk, e =>
    rw [blkWs, List.append_assoc] at e
    have hyy := hy y (by simp)
    have h2 := decB_blk y (blkWs ys ++ 0xff :: rest) hyy.1 hyy.2
    rw [← e, hd] at h2
    simp only [Prod.mk.injEq, and_true] at h2
    obtain ⟨rfl, -⟩ := h2
    refine h ys rest (fun q hq => hy q (by simp [hq])) (by simpa using hk) ?_
    rw [e, List.drop_left]
theorem NoP.none {m : List UInt8} {k : Nat} (h1 : ∀ rest, m ≠ 0xff :: rest) (h2 : ∀ y N, decB m ≠ (y, N, 0)) : NoP m k := by
  intro ys rest hy hk e
  match ys, hy, e with
  | [], _, e => exact h1 rest e
  | y :: ys, hy, e =>
    rw [blkWs, List.append_assoc] at e
    have hyy := hy y (by simp)
    have h3 := decB_blk y (blkWs ys ++ 0xff :: rest) hyy.1 hyy.2
    rw [← e] at h3
    exact h2 _ _ h3
theorem NoP.zero {m : List UInt8} (h1 : ∀ rest, m ≠ 0xff :: rest) : NoP m 0 := by
  intro ys rest hy hk e
  have : ys = [] := List.eq_nil_of_length_eq_zero (by omega)
  subst this
  exact h1 rest e
end Go.Proofs.YtoggkjoadiombaaGreatDoor
/- What readBlocks of layer 6 returns: the walk. (Made by gen/bun.py.) -/
namespace Go.Proofs.YtoggkjoadiombaaGreatDoor
open Go.RowKit
theorem info_blk : (Tryz.prog.info? 44).map (fun i => (i.zero, i.size, i.bytes)) = some (some (.agg #[.int .u64 0, .int .u64 0, .int .u64 0, .int .i64 0, .slice none 0 0]), 5, 56) := by kernel_rfl
def BlksU (l : List UInt8) (w : World) (e : Ending) (w' : World) : Prop := Below w.heap.size w w' ∧
  ((∃ (xs : List Blk) (A : Option Addr) (n c N : Nat) (rest : List UInt8), e = .returned (.tuple #[.slice A n c, .int .i64 (N : Int), .nilIface]) ∧ RdL (mask (lows w.heap.size) w') w'.heap.size A n xs ∧ n ≤ c ∧ n ≤ 16 ∧ okBs xs ∧ l = blkWs xs ++ 0xff :: rest ∧ N = (blkWs xs).length + 1) ∨
   (NoP l 16 ∧ ∃ z s, z ≠ 0 ∧ e = .returned (.tuple #[.slice none 0 0, .int .i64 0, ufl z s])))
structure LpSt (l : List UInt8) (w wr : World) (v : Value) (a : Nat) (ps : List PK) : Prop where
  st : BkSt w wr v ps
  few : ps.length ≤ 16
  ok : okBs (ps.map (·.x))
  at_ : a = (blkWs (ps.map (·.x))).length
  eq : l = blkWs (ps.map (·.x)) ++ l.drop a
  no : NoP (l.drop a) (16 - ps.length) → NoP l 16
set_option maxRecDepth 100000 in
set_option maxHeartbeats 8000000 in
theorem ureadBs_any (A : Option Addr) (n c B : Nat) (l : List UInt8) (w : World) (hL : LaidE w) (hB : B ≤ w.heap.size) (h : Rd w B A n l) (hn : n ≤ 140737488355328) (hc : n ≤ c) :
    Calls Tryz.prog 75 #[.slice A n c] w (BlksU l w) := by
  obtain ⟨i0, hi0, hz0, hz1, hz2⟩ := info_parts info_blk
  have HI := Lib.hid hi0
  have HI0 := Lib.hid hz0
  have HI1 := Lib.hid hz1
  have HI2 := Lib.hid hz2
  have HR := Lib.hid h
  have HH := Lib.hid (And.intro hB hc)
  have HLd := Lib.hid hL
  have CN := Lib.hid unone_any
  have hcn := fun (W : World) (hb : Below w.heap.size w W) (x : Int) (k : Nat) (hx : x = (k : Int)) (hk : k ≤ n) => cut_l (P := Tryz.prog) (w := W) 35 5 Tryz.underlying35 size_u8 c (h.below (hb.mono hB)) x k hx hk hc
  have HCN := Lib.hid hcn
  clear hi0 hz0 hz1 hz2 h hB hc hL hcn
  go_enter Tryz.func75, Tryz.ntmps75
  go_wp2_with fail
  go_step3
  go_wp2_with fail
  go_step3
  go_wp2_with fail
  go_loopw [5, 6] (fun v av wr => ∃ (a : Nat) (ps : List PK), a ≤ n ∧ av = .int .i64 (a : Int) ∧ Hid (LpSt l w wr v a ps)) (fun _ av _ => n - (intOf av).toNat)
  case atStart => exact ⟨0, [], Nat.zero_le _, rfl, ⟨BkSt.start w, by simp, fun _ h => (by cases h), rfl, rfl, fun h => h⟩⟩
  case round =>
    obtain ⟨a, ps, ha, rfl, HS⟩ := hrel
    obtain ⟨A5, cp5, rfl, hcp⟩ := HS.out.st.form
    have HBel := Lib.hid HS.out.st.bel
    by_cases hlt : a = n
    · have HNO : Hid (NoP l 16) := HS.out.no (by rw [hlt, List.drop_eq_nil_of_le (by rw [HR.out.1]; exact Nat.le_refl _)]; exact NoP.none (fun rest e => by cases e) (fun y N e => by
        have := (decB_sound e).2.2
        have hp := blkW_pos y
        simp at this
        rw [this] at hp
        simp at hp))
      subst hlt
      clear hcp
      go_wp2_with fail
      (try rw [Exit.noGoto_ret])
      refine bodyPost_ret (results_tmp3 Tryz.results75 _ _ _) rfl ⟨HBel.out, .inr ⟨HNO.out, 30, _, by decide, rfl⟩⟩
    have han : a < n := by omega
    have hne : ((a : Int) == (n : Int)) = false := by simp; omega
    have hi1 : (a : Int) < (n : Int) := by omega
    obtain ⟨b0, o0, rfl, hb0, hcell⟩ := (HR.out.below (HBel.out.mono HH.out.1)).2 (by omega)
    obtain ⟨x0, hx0⟩ : ∃ x0, x0 = l.getD a 0 := ⟨_, rfl⟩
    have hcx : wr.cell? ⟨b0, o0 + a, none⟩ = some (.int .u8 (x0.toNat : Int)) := by rw [hx0]; exact hcell a han
    have hdr : ∃ r, l.drop a = x0 :: r := ⟨l.drop (a + 1), by
      have hal : a < l.length := by rw [HR.out.1]; exact han
      rw [List.drop_eq_getElem_cons hal, hx0]
      simp [List.getD, hal]⟩
    have HDR := Lib.hid hdr
    clear hx0 hcell hdr
    by_cases hff : x0 = 0xff
    · have hx1 : ((x0.toNat : Int) == 255) = true := by rw [hff]; rfl
      have HFF := Lib.hid hff
      have ha1 : wrap64 ((a : Int) + 1) = ((a + 1 : Nat) : Int) := by unfold wrap64; omega
      have HCP := Lib.hid hcp
      clear hff hcp hlt
      go_wp2_with fail
      obtain ⟨r, hr⟩ := HDR.out
      (try rw [Exit.noGoto_ret])
      refine bodyPost_ret (results_tmp3 Tryz.results75 _ _ _) rfl ⟨HBel.out, .inl ⟨ps.map (·.x), A5, ps.length, cp5, a + 1, r, rfl, HS.out.st.read (by have := HS.out.few; omega), HCP.out, HS.out.few, HS.out.ok, ?_, by rw [← HS.out.at_]⟩⟩
      have := HS.out.eq
      rw [hr, HFF.out] at this
      exact this
    have hx1 : ((x0.toNat : Int) == 255) = false := by
      have : x0.toNat ≠ 255 := fun e => hff (UInt8.toNat_inj.1 e)
      simp; omega
    have HN1 : Hid (∀ rest, l.drop a ≠ 0xff :: rest) := fun rest e => by
      obtain ⟨r, hr⟩ := HDR.out
      rw [hr] at e
      injection e with e
      exact hff e
    clear hff
    by_cases h16 : ps.length = 16
    · have HNO : Hid (NoP l 16) := HS.out.no (by rw [h16]; exact NoP.zero HN1.out)
      have ht : (((ps.length : Nat) : Int) == 16) = true := by rw [h16]; rfl
      generalize ps.length = np at *
      clear h16 hcp
      go_wp2_with (first | (go_at_call 57; refine (CN.out _ _).mono ?_; rintro e w1 ⟨rfl, rfl⟩) | fail)
      (try rw [Exit.noGoto_ret])
      refine bodyPost_ret (results_tmp3 Tryz.results75 _ _ _) rfl ⟨HBel.out, .inr ⟨HNO.out, 60, _, by decide, rfl⟩⟩
    have ht : (((ps.length : Nat) : Int) == 16) = false := by simp; omega
    obtain ⟨D1, d1, k1, hd1, hd2, r1⟩ := HCN.out wr HBel.out (a : Int) a rfl ha
    have C1 := Lib.hid (bdecodeS_any D1 (n - a) d1 B (l.drop a) wr (Nat.le_trans HH.out.1 HBel.out.size) r1 (by omega) hd1 (HLd.out.below HBel.out HLd.out.lt))
    have H16 := Lib.hid h16
    have HCP := Lib.hid hcp
    generalize hnp : ps.length = np at *
    have HNP := Lib.hid hnp
    clear h16 hcp r1 hd1 hd2 hlt hnp
    go_wp2_with fail
    refine C1.out.mono ?_
    rintro e w1 ⟨hb, x, A1, nd, cd, N, z, rfl, hdec, hbd, hnd, hrd, hfr⟩
    unfold blkV
    by_cases hz : z = 0
    · subst hz
      obtain ⟨hok, hN, heq⟩ := decB_sound hdec
      obtain ⟨M, hM⟩ : ∃ M, M = (blkW x).length := ⟨_, rfl⟩
      rw [← hM] at hN heq
      subst hN
      have hMa : a + M ≤ n := by
        have h1 := congrArg List.length heq
        rw [List.length_append, List.length_drop, List.length_drop, HR.out.1, ← hM] at h1
        have h2 := blkW_pos x
        omega
      have hwr : wrap64 ((a : Int) + (M : Int)) = ((a + M : Nat) : Int) := by unfold wrap64; omega
      have hM1 : 1 ≤ M := by rw [hM]; exact blkW_pos x
      have hst1 := HS.out.st.on hb
      have hst2 := hst1.on ((Below.refl w1.heap.size w1).alloc (Nat.le_refl _) (.cells #[.int .u64 (x.typ : Int), .int .u64 (x.num : Int), .int .u64 (x.flg : Int), .int .i64 x.crc, .slice A1 nd cd] 44))
      have hst3 := hst2.on ((Below.refl (w1.alloc (.cells #[.int .u64 (x.typ : Int), .int .u64 (x.num : Int), .int .u64 (x.flg : Int), .int .i64 x.crc, .slice A1 nd cd] 44)).heap.size _).alloc (Nat.le_refl _) (.cells #[.int .u64 (x.typ : Int), .int .u64 (x.num : Int), .int .u64 (x.flg : Int), .int .i64 x.crc, .slice A1 nd cd] 44))
      have hok3 : OkK w.heap.size ((w1.alloc (.cells #[.int .u64 (x.typ : Int), .int .u64 (x.num : Int), .int .u64 (x.flg : Int), .int .i64 x.crc, .slice A1 nd cd] 44)).alloc (.cells #[.int .u64 (x.typ : Int), .int .u64 (x.num : Int), .int .u64 (x.flg : Int), .int .i64 x.crc, .slice A1 nd cd] 44)) (.slice A5 np cp5) ⟨x, A1, nd, cd⟩ :=
        (OkK.below (lo := w.heap.size) (w := w1) ⟨hbd, hnd, hrd, fun h0 b o e he => by
          have h1 := hfr h0 b o e
          have h2 := (World.ownsRow.lt HS.out.st.own b he).2
          omega, fun h0 b o e => Nat.le_trans HS.out.st.bel.size (hfr h0 b o e)⟩ ((Below.refl w1.heap.size w1).alloc (Nat.le_refl _) _)).below ((Below.refl _ _).alloc (Nat.le_refl _) _)
      have HST3 := Lib.hid hst3
      have HOK3 := Lib.hid hok3
      have HOWN := Lib.hid hst3.own
      rw [HNP.out] at HOWN
      have HSZ3 : Hid (w.heap.size ≤ ((w1.alloc (.cells #[.int .u64 (x.typ : Int), .int .u64 (x.num : Int), .int .u64 (x.flg : Int), .int .i64 x.crc, .slice A1 nd cd] 44)).alloc (.cells #[.int .u64 (x.typ : Int), .int .u64 (x.num : Int), .int .u64 (x.flg : Int), .int .i64 x.crc, .slice A1 nd cd] 44)).heap.size) := hst3.bel.size
      have HPL : Hid (∀ (v : Value) (wE : World) (h : BkSt w wE v (ps ++ [⟨x, A1, nd, cd⟩])), LpSt l w wE v (a + M) (ps ++ [⟨x, A1, nd, cd⟩])) := fun v wE hh => by
        have he : (ps ++ [⟨x, A1, nd, cd⟩] : List PK).map (·.x) = ps.map (·.x) ++ [x] := by simp
        have hdd : l.drop (a + M) = (l.drop a).drop M := by rw [List.drop_drop]
        refine ⟨hh, by rw [List.length_append, List.length_singleton]; have := H16.out; have := HS.out.few; have := HNP.out; omega, ?_, ?_, ?_, ?_⟩
        · rw [he]
          intro y hy
          rcases List.mem_append.1 hy with hy | hy
          · exact HS.out.ok y hy
          · rw [List.mem_singleton] at hy; subst hy; exact ⟨hok, hbd⟩
        · rw [he, blkWs_app, List.length_append, ← HS.out.at_, hM]; simp [blkWs]
        · rw [he, blkWs_app, hdd, List.append_assoc, show blkWs [x] = blkW x by simp [blkWs], ← heq]
          exact HS.out.eq
        · intro hno
          refine HS.out.no ?_
          have hk : 16 - ps.length = (16 - (ps ++ [⟨x, A1, nd, cd⟩] : List PK).length) + 1 := by
            rw [List.length_append, List.length_singleton]; have := H16.out; have := HS.out.few; have := HNP.out; omega
          rw [hk]
          rw [hdd] at hno
          rw [hM] at hdec heq hno
          exact NoP.step hdec heq hno
      have HMM := Lib.hid (And.intro hMa hM1)
      clear hb hdec hbd hnd hrd hfr hok heq hM hMa hM1 hst1 hst2 hst3 hok3 hcx
      go_wp2_with (first
        | (at_builtin; refine wpList_append_lies _ rfl (.tmp 43) (.tmp 45) 26 rfl w.heap.size 44 i0 _ 5 56 Tryz.underlying26 HI.out HI0.out HI1.out HI2.out rfl (by decide) (.slice A5 np cp5) np (rowK ps) rfl HOWN.out ⟨w1.heap.size + 1, 0, none⟩ 1 1 [.int .u64 (x.typ : Int), .int .u64 (x.num : Int), .int .u64 (x.flg : Int), .int .i64 x.crc, .slice A1 nd cd] rfl rfl (by intro q u hq; match q with | 0 => (cases hq; simp [Addr.add]) | 1 => (cases hq; simp [Addr.add]) | 2 => (cases hq; simp [Addr.add]) | 3 => (cases hq; simp [Addr.add]) | 4 => (cases hq; simp [Addr.add]) | q + 5 => simp at hq) (by intro u hu; simp at hu; rcases hu with rfl | rfl | rfl | rfl | rfl <;> rfl) (by decide) (by have := HS.out.few; have := HNP.out; unfold maxLen; omega) (by have := HS.out.few; have := HNP.out; omega) HSZ3.out _ rfl ?_; intro g2 cap2 w3 ho3 hg3 hat hlt3; have HPS := Lib.hid (HST3.out.push HOK3.out HNP.out ho3 hg3 hat); clear ho3 hg3 hat hlt3)
        | fail)
      go_roundw
      case rel => exact ⟨a + M, ps ++ [⟨x, A1, nd, cd⟩], HMM.out.1, by rw [hwr], Lib.hid (HPL.out _ _ HPS.out)⟩
      case measure =>
        have h1 : (wrap64 ((a : Int) + (M : Int))).toNat = a + M := by rw [hwr]; exact Int.toNat_natCast _
        have h2 : ((a : Int)).toNat = a := Int.toNat_natCast a
        have h3 : n - (a + M) < n - a := Nat.sub_lt_sub_left han (Nat.lt_add_of_pos_right HMM.out.2)
        have key : ∀ z : Int, intOf (.int .i64 z) = z := fun z => rfl
        rw [key, key, h1, h2]
        exact h3
    · have hz0 : (z == 0) = false := by simpa using hz
      have hz1 : (z != 0) = true := by simpa using hz
      have HNO : Hid (NoP l 16) := HS.out.no (NoP.none HN1.out (fun y N' e => by rw [hdec] at e; simp only [Prod.mk.injEq] at e; exact hz e.2.2))
      have HB1 := Lib.hid (HBel.out.trans ((hb.alloc hb.size (.cells #[.int .u64 (x.typ : Int), .int .u64 (x.num : Int), .int .u64 (x.flg : Int), .int .i64 x.crc, .slice A1 nd cd] 44)).mono HBel.out.size))
      have HZ := Lib.hid hz
      clear hb hdec hbd hnd hrd hfr hz
      go_wp2_with fail
      (try rw [Exit.noGoto_ret])
      refine bodyPost_ret (results_tmp3 Tryz.results75 _ _ _) rfl ⟨HB1.out, .inr ⟨HNO.out, z, _, HZ.out, rfl⟩⟩
end Go.Proofs.YtoggkjoadiombaaGreatDoor
