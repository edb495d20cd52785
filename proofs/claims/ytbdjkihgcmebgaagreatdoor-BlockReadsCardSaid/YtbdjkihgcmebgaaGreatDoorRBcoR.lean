/- Decode of layer 5's reference. (Made by gen/BcoR.py.) -/
import Derived.Test.YtbdjkihgcmebgaaGreatDoorRBlkI
import Derived.Test.YtbdjkihgcmebgaaGreatDoorRBlkW4
import Derived.Test.YtbdjkihgcmebgaaGreatDoorREidC3
import Derived.Test.YtbdjkihgcmebgaaGreatDoorRRfR
import Derived.Test.YtbdjkihgcmebgaaGreatDoorRRgE
import Derived.Test.YtbdjkihgcmebgaaGreatDoorRShaE
import Derived.BigQuiet
import Derived.ArgAppend
namespace Go.Proofs.YtbdjkihgcmebgaaGreatDoor
open Go.RowKit

theorem gb_below {B q : Nat} {W W' W'' : World} (h : Below B W W') (hg : W'.grownBy W'' (some q)) (hq : B ≤ q) (hB : B ≤ W.heap.size := by exact Nat.le_refl _) : Below B W W'' :=
  ⟨hg.os.trans h.os, hg.tape.trans h.tape, hg.output.trans h.output, Nat.le_trans h.size hg.size, fun k hk => (hg.block k (by have := h.size; omega) (fun e => by injection e with e; omega)).trans (h.block k hk)⟩
theorem lt_of_some {W : World} {k : Nat} {o : Obj} (h : W.heap[k]? = some o) : k < W.heap.size := (Array.getElem?_eq_some_iff.1 h).1
theorem gb_below6 {B : Nat} {W W' W'' : World} {e : TypeId} {v : Value} {l : List UInt8} (h : Below B W W') (hg : W'.grownBy W'' v.ownBlock) (ho : Ob W' B e v l) (hB : B ≤ W'.heap.size) : Below B W W'' :=
  ⟨hg.os.trans h.os, hg.tape.trans h.tape, hg.output.trans h.output, Nat.le_trans h.size hg.size, fun k hk => (hg.block k (by omega) (fun e => by have := (World.ownsRow.lt ho k e.symm).1; omega)).trans (h.block k hk)⟩
theorem ob_made5 {w : World} {base g M : Nat} {t : TypeId} (h : w.ownsRow base t 1 (.slice (some ⟨g, 0, none⟩) M M) M (madeCells (Value.int IntKind.u8 0).cells (M * 1)).toList) : Ob w base t (.slice (some ⟨g, 0, none⟩) M M) (List.replicate M 0) := by
  have e : (madeCells (Value.int IntKind.u8 0).cells (M * 1)).toList = (List.replicate M (0 : UInt8)).map bv := by
    apply List.ext_getElem?
    intro j
    have hz1 : (Value.int IntKind.u8 0).cells = #[.int .u8 0] := rfl
    rw [hz1]
    by_cases hj : j < M
    · simp [hj, madeCells, Nat.mod_one, bv]
    · simp [hj, madeCells]
  unfold Ob
  rw [List.length_replicate, ← e]
  exact h
theorem own_type {B g : Nat} {W : World} {v : Value} {l : List UInt8} {c : Array Value} (ho : Ob W B 5 v l) (h : W.heap[g]? = some (.cells c 25 (0, 0))) : v.ownBlock ≠ some g := fun e => by
  rcases ho.2 with ⟨rfl, -⟩ | ⟨b, cap, cur, rfl, -, hg, -⟩
  · cases e
  · obtain rfl : b = g := Option.some.inj e
    rw [h] at hg
    injection hg with hg
    injection hg with _ hg _
    exact absurd hg (by decide)
theorem Ob.far {B g : Nat} {w W' : World} {t : TypeId} {v : Value} {l : List UInt8} (h : Ob w B t v l) (hne : v.ownBlock ≠ some g) (hk : ∀ j, j ≠ g → W'.heap[j]? = w.heap[j]?) : Ob W' B t v l := by
  refine ⟨h.1, ?_⟩
  rcases h.2 with hn | ⟨b, cap, cur, rfl, hb, hg, rest⟩
  · exact .inl hn
  · exact .inr ⟨b, cap, cur, rfl, hb, (hk b (fun e => hne (by rw [e]; rfl))).trans hg, rest⟩
theorem step_st5 {P : Program} {w : World} {ops : Array Oper} {o : Oper} {a : Act} {K : Act → World → Prop} {Q : Exit → Act → World → Prop} {E : Prop} (hgd : o.guard = none) (ty : TypeId) (x y : Operand) (ho : o.op = .store ty x y)
    (g : Nat) (v0 v1 v2 v3 v4 : Value) (hx : a.eval x = .pointer (some ⟨g, 0, none⟩)) (hy : a.eval y = .agg #[v0, v1, v2, v3, v4]) (t : TypeId) (old : Array Value) (hg : w.heap[g]? = some (.cells old t (0, 0)))
    (hi : (P.info? ty).map (·.size) = some 5) (hold : old.size = 5) (h1 : ([v0, v1, v2, v3, v4] : List Value).all (·.oneCell') = true)
    (h : ∀ W', W'.heap[g]? = some (.cells #[v0, v1, v2, v3, v4] t (0, 0)) → (∀ (B : Nat) (w0 : World), Below B w0 w → B ≤ g → Below B w0 W') → W'.heap.size = w.heap.size → (∀ j, j ≠ g → W'.heap[j]? = w.heap[j]?) → K (a.put o.dst undef) W') :
    if Region.wanted o (yielded ops a.tmps) = true then Oper.wp P o a w K Q else E := by
  have hw : Region.wanted o (yielded ops a.tmps) = true := by simp [Region.wanted, hgd]
  rw [if_pos hw]
  exact wp_store_row ty x y ho g #[v0, v1, v2, v3, v4] hx hy t old hg hi hold (Array.all_eq_true_iff_forall_mem.2 fun v hv => List.all_eq_true.1 h1 v (by simpa using hv))
    (h _ (setRow_heap w g old _ t _ hg) (fun B w0 hb hB => below_setRow hb hB _) (setRow_size w g _) (fun j hj => setRow_other w g j _ hj))
theorem row5 {W : World} {g : Nat} {c0 c1 c2 c3 c4 : Value} {t : TypeId} (h : W.heap[g]? = some (.cells #[c0, c1, c2, c3, c4] t (0, 0))) :
    (W.cell? ⟨g, 0, none⟩ = some c0 ∧ W.cell? ⟨g, 1, none⟩ = some c1 ∧ W.cell? ⟨g, 2, none⟩ = some c2 ∧ W.cell? ⟨g, 3, none⟩ = some c3 ∧ W.cell? ⟨g, 4, none⟩ = some c4) ∧ W.frozen? ⟨g, 0, none⟩ = false ∧ W.frozen? ⟨g, 1, none⟩ = false ∧ W.frozen? ⟨g, 2, none⟩ = false ∧ W.frozen? ⟨g, 3, none⟩ = false ∧ W.frozen? ⟨g, 4, none⟩ = false := by
  refine ⟨⟨?_, ?_, ?_, ?_, ?_⟩, ?_, ?_, ?_, ?_, ?_⟩ <;> simp [World.cell?, World.frozen?, h]

theorem notDec {y : Blk} {k : Int} {n : Nat} {d : List UInt8} {L : List Itm} (h : ∀ s : List UInt8, s.length = sumN y.crc → k = 4 → L.length = (itsB y).length → (∀ j, j < L.length → okAt y L j) → False) : blkOk y = true → ∀ s : List UInt8, s.length = sumN y.crc → Itm.mk k n d L ≠ itmB y s := fun _ s hs e => by
  obtain ⟨h1, h2, h3⟩ := itmB_at hs e
  exact h s hs h1 h2 h3

set_option maxRecDepth 100000 in
set_option maxHeartbeats 16000000 in
theorem rdecodeB_any (A : Option Addr) (n c B : Nat) (l : List UInt8) (w : World) (hB : B ≤ w.heap.size) (h : Rd w B A n l) (hn : n ≤ 140737488355328) (hc : n ≤ c) :
    Calls Tryz.prog 5 #[.slice A n c] w (DecB l w) := by
  have HB0 := Lib.hid ((Below.refl w.heap.size w).alloc (Nat.le_refl _) (.cells #[.int .u64 0, .int .u64 0, .int .u64 0, .int .i64 0, .slice none 0 0] 25))
  have hs0 : (w.alloc (.cells #[.int .u64 0, .int .u64 0, .int .u64 0, .int .i64 0, .slice none 0 0] 25)).heap.size = w.heap.size + 1 := by simp
  have HS0 := Lib.hid hs0
  have CD := Lib.hid (rdecode3_any A n c B l (w.alloc (.cells #[.int .u64 0, .int .u64 0, .int .u64 0, .int .i64 0, .slice none 0 0] 25)) (Nat.le_trans hB (le_alloc _ _)) (h.alloc hB _) hn hc)
  have HZ := Lib.hid (fun (W : World) (hb : Below (w.heap.size + 1) (w.alloc (.cells #[.int .u64 0, .int .u64 0, .int .u64 0, .int .i64 0, .slice none 0 0] 25)) W) => zero5 (g := w.heap.size) rfl hb)
  have HZB : Hid (∀ (W : World) (_ : Below (w.heap.size + 1) (w.alloc (.cells #[.int .u64 0, .int .u64 0, .int .u64 0, .int .i64 0, .slice none 0 0] 25)) W), W.heap[w.heap.size]? = some (.cells #[.int .u64 0, .int .u64 0, .int .u64 0, .int .i64 0, .slice none 0 0] 25 (0, 0))) := fun W hb => by
    rw [hb.block w.heap.size (Nat.lt_succ_self _)]; exact heap_alloc_new w _
  have HNO : Hid (∀ e w' z, decB l = (.zero, 0, z) → Below w.heap.size w w' → e = .returned (.tuple #[blkV 0 0 0 0 none 0 0, .int .i64 0, .int .i64 z]) → DecB l w e w') := fun _ _ z h1 h2 h3 => ⟨h2, .zero, none, 0, 0, 0, z, h3, h1, zero_bd, ⟨Nat.le_refl _, by decide⟩, Rd.nil_⟩
  have HRD := Lib.hid (And.intro hB (And.intro h (And.intro hn hc)))
  rcases decode_cases l with ⟨e0, he, hd⟩ | ⟨⟨k, n0, d0, L⟩, r, hl, hf, hs, hd⟩
  · rw [hd] at CD
    have HD := Lib.hid (decB_er (e := e0) (by rw [hd]) (by omega))
    have e1 : (e0 != 0) = true := by rw [bne_iff_ne]; omega
    clear h hB hn hc he hd hs0
    go_enter Tryz.func5, Tryz.ntmps5
    go_wp2_with fail
    refine CD.out.mono ?_
    rintro e u1 ⟨v, rfl, hv, hb⟩
    obtain ⟨k, n0, A1, nd1, cd1, AL, nl, cl, rfl⟩ := hv.unmask.form
    rw [HS0.out] at hb
    have hz1 : w.heap.size + 1 ≤ u1.heap.size := by have := hb.size; rw [HS0.out] at this; exact this
    have hb2 := hb.alloc hz1 (.cells #[.int .i64 k, .int .u64 (n0 : Int), .slice A1 nd1 cd1, .slice AL nl cl] 42)
    obtain ⟨⟨z0, z1, z2, z3, z4⟩, f0, f1, f2, f3, f4⟩ := HZ.out _ hb2
    have B1 := Lib.hid (HB0.out.trans (hb2.mono (Nat.le_succ _)))
    clear hv hb hb2 hz1 CD
    go_wp2_with fail
    exact bodyPost_ret (v := .tuple #[blkV 0 0 0 0 none 0 0, .int .i64 0, .int .i64 e0]) (by simp [results, Tryz.results5, go_sem, z0, z1, z2, z3, z4, blkV]) rfl (HNO.out _ _ e0 HD.out (by first | exact B1.out | exact below_put5 B1.out (Nat.le_refl _)) rfl)
  rw [hd] at CD
  have HDD := Lib.hid hd
  have HRT := Lib.hid hf.1
  have HTB := Lib.hid (taken_bd hs)
  have HSIZ := Lib.hid hs
  have HLL := Lib.hid (And.intro (by rw [hl, List.length_append]; omega : (wri (.mk k n0 d0 L)).length ≤ l.length) hf.2.2)
  generalize hWL : (wri (.mk k n0 d0 L)).length = WL at *
  clear h hB hn hc hd hf hs hl hWL
  by_cases hk : k = 4
  case neg =>
    have hk1 : (k != 4) = true := by simpa using hk
    have HD := Lib.hid (decB_no HDD.out (notDec (fun _ _ h4 _ _ => hk h4)))
    clear hk hs0
    go_enter Tryz.func5, Tryz.ntmps5
    go_wp2_with fail
    refine CD.out.mono ?_
    rintro e u1 ⟨v, rfl, hv, hb⟩
    obtain ⟨A1, nd1, cd1, AL, cl, rfl, -, -, -, -, -, -⟩ := hv.unmask.open
    generalize L.length = NL at *
    rw [HS0.out] at hb
    have hz1 : w.heap.size + 1 ≤ u1.heap.size := by have := hb.size; rw [HS0.out] at this; exact this
    have hb2 := hb.alloc hz1 (.cells #[.int .i64 k, .int .u64 (n0 : Int), .slice A1 nd1 cd1, .slice AL NL cl] 42)
    obtain ⟨⟨z0, z1, z2, z3, z4⟩, f0, f1, f2, f3, f4⟩ := HZ.out _ hb2
    have B1 := Lib.hid (HB0.out.trans (hb2.mono (Nat.le_succ _)))
    clear hv hb hb2 hz1 CD
    go_wp2_with fail
    exact bodyPost_ret (v := .tuple #[blkV 0 0 0 0 none 0 0, .int .i64 0, .int .i64 50]) (by simp [results, Tryz.results5, go_sem, z0, z1, z2, z3, z4, blkV]) rfl (HNO.out _ _ 50 HD.out (by first | exact B1.out | exact below_put5 B1.out (Nat.le_refl _)) rfl)
  subst hk
  have hk1 : ((4 : Int) != 4) = false := by decide
  by_cases h5 : L.length < 5
  case pos =>
    have h5i : (L.length : Int) < 5 := by omega
    have HD := Lib.hid (decB_no HDD.out (notDec (fun _ _ _ h4 _ => by rw [itsB_len] at h4; split at h4 <;> omega)))
    clear hs0
    go_enter Tryz.func5, Tryz.ntmps5
    go_wp2_with fail
    refine CD.out.mono ?_
    rintro e u1 ⟨v, rfl, hv, hb⟩
    have hv' := hv.unmask
    obtain ⟨A1, nd1, cd1, AL, cl, rfl, -, -, -, -, hcl, hrow⟩ := hv'.open
    rw [HS0.out] at hb
    have hz1 : w.heap.size + 1 ≤ u1.heap.size := by have := hb.size; rw [HS0.out] at this; exact this
    have hb2 := hb.alloc hz1 (.cells #[.int .i64 4, .int .u64 (n0 : Int), .slice A1 nd1 cd1, .slice AL L.length cl] 42)
    have B1 := Lib.hid (HB0.out.trans (hb2.mono (Nat.le_succ _)))
    have Y1 := Lib.hid hb2
    have HZ1 := Lib.hid hz1
    obtain ⟨⟨z0, z1, z2, z3, z4⟩, f0, f1, f2, f3, f4⟩ := HZ.out _ hb2
    clear hv hv' hb hb2 hz1 CD hrow hcl h5
    generalize L.length = NL at *
    go_wp2_with fail
    exact bodyPost_ret (v := .tuple #[blkV 0 0 0 0 none 0 0, .int .i64 0, .int .i64 50]) (by simp [results, Tryz.results5, go_sem, z0, z1, z2, z3, z4, blkV]) rfl (HNO.out _ _ 50 HD.out (by first | exact B1.out | exact below_put5 B1.out (Nat.le_refl _)) rfl)
  obtain ⟨y0, y1, y2, y3, y4, r5, rfl⟩ : ∃ y0 y1 y2 y3 y4 r5, L = y0 :: y1 :: y2 :: y3 :: y4 :: r5 := by
    match L, h5 with
    | [], h => exact absurd (by simp) h
    | [_], h => exact absurd (by simp) h
    | [_, _], h => exact absurd (by simp) h
    | [_, _, _], h => exact absurd (by simp) h
    | [_, _, _, _], h => exact absurd (by simp) h
    | y0 :: y1 :: y2 :: y3 :: y4 :: r, _ => exact ⟨y0, y1, y2, y3, y4, r, rfl⟩
  obtain ⟨k0, m0, e0, l0⟩ := y0
  obtain ⟨k1, m1, e1, l1⟩ := y1
  obtain ⟨k2, m2, e2, l2⟩ := y2
  obtain ⟨k3, m3, e3, l3⟩ := y3
  obtain ⟨k4, m4, d4, l4⟩ := y4
  obtain ⟨LL, hLL⟩ : ∃ LL, LL = (Itm.mk k0 m0 e0 l0 :: .mk k1 m1 e1 l1 :: .mk k2 m2 e2 l2 :: .mk k3 m3 e3 l3 :: .mk k4 m4 d4 l4 :: r5) := ⟨_, rfl⟩
  have HLQ := Lib.hid hLL
  have htk : takenB (.mk 4 n0 d0 LL) = ⟨m0, m1, m2, wrap64 (m3 : Int), d4⟩ := by rw [hLL]; rfl
  rw [← hLL] at h5 HDD HTB HSIZ HRT CD HLL
  rw [htk] at HTB
  have HTK := Lib.hid htk
  obtain ⟨NL, hNL⟩ : ∃ NL, NL = LL.length := ⟨_, rfl⟩
  rw [← hNL] at h5
  have HNL := Lib.hid hNL
  have h5i : ¬ (NL : Int) < 5 := by omega
  have h5n : 5 ≤ NL := by omega
  have hn0 : 0 < NL := by omega
  have hi0 : (0 : Int) < NL := by omega
  have hn1 : 1 < NL := by omega
  have hi1 : (1 : Int) < NL := by omega
  have hn2 : 2 < NL := by omega
  have hi2 : (2 : Int) < NL := by omega
  have hn3 : 3 < NL := by omega
  have hi3 : (3 : Int) < NL := by omega
  have hn4 : 4 < NL := by omega
  have hi4 : (4 : Int) < NL := by omega
  have hn0p : 0 < NL := by omega
  clear hLL hNL htk h5
  by_cases h3 : m3 ≤ 2
  case neg =>
    have h3i : (2 : Int) < (m3 : Int) := by omega
    have hm3 : m3 < 18446744073709551616 := by have h := HSIZ.out; rw [HLQ.out] at h; simp only [Siz, Sizs] at h; exact h.2.2.2.2.2.2.1.1
    have hbad : blkOk (takenB (.mk 4 n0 d0 LL)) = false := by
      cases hb : blkOk (takenB (.mk 4 n0 d0 LL)) with
      | false => rfl
      | true =>
        have h1 := crcp hb
        rw [HTK.out] at h1
        exact absurd h1 (crc_bad (by omega) hm3)
    have HD := Lib.hid (decB_bad (l := l) (by rw [HDD.out]) (by rw [HDD.out]; exact hbad))
    clear hs0 hbad hm3 h3
    go_enter Tryz.func5, Tryz.ntmps5
    go_wp2_with fail
    refine CD.out.mono ?_
    rintro e u1 ⟨v, rfl, hv, hb⟩
    have hv' := hv.unmask
    obtain ⟨A1, nd1, cd1, AL, cl, rfl, -, -, -, -, hcl, hrow⟩ := hv'.open
    rw [← HNL.out] at hcl hrow ⊢
    rw [HS0.out] at hb
    have hz1 : w.heap.size + 1 ≤ u1.heap.size := by have := hb.size; rw [HS0.out] at this; exact this
    have hb2 := hb.alloc hz1 (.cells #[.int .i64 4, .int .u64 (n0 : Int), .slice A1 nd1 cd1, .slice AL NL cl] 42)
    have B1 := Lib.hid (HB0.out.trans (hb2.mono (Nat.le_succ _)))
    have Y1 := Lib.hid hb2
    have HZ1 := Lib.hid hz1
    obtain ⟨b, o, rfl, hbB, hs⟩ := hrow (by omega)
    have hs' := hs
    rw [HLQ.out] at hs
    rw [RdIs, RdIs, RdIs, RdIs, RdIs] at hs
    obtain ⟨⟨a00, a01, a02, a03, -, i0, -, -, x0⟩, ⟨a10, a11, a12, a13, -, i1, -, -, x1⟩, ⟨a20, a21, a22, a23, -, i2, -, -, x2⟩, ⟨a30, a31, a32, a33, -, i3, -, -, x3⟩, ⟨a40, a41, a42, a43, -, -, i4, -, x4⟩, -⟩ := hs
    obtain ⟨-, -, -, -, rfl, -, b0, -, -⟩ := x0.cells
    obtain ⟨-, -, -, -, rfl, -, b1, -, -⟩ := x1.cells
    obtain ⟨-, -, -, -, rfl, -, b2, -, -⟩ := x2.cells
    obtain ⟨-, -, -, -, rfl, -, b3, -, -⟩ := x3.cells
    obtain ⟨A4, nd4, cd4, -, -, rfl, -, b4, r4⟩ := x4.cells
    obtain ⟨W1, hW1⟩ : ∃ W1, W1 = u1.alloc (.cells #[.int .i64 4, .int .u64 (n0 : Int), .slice A1 nd1 cd1, .slice (some ⟨b, o, none⟩) NL cl] 42) := ⟨_, rfl⟩
    have hz2 : W1.heap.size = u1.heap.size + 1 := by rw [hW1]; simp
    have kk : ∀ W, Below W1.heap.size W1 W → ∀ j u, u1.cell? ⟨b, j, none⟩ = some u → W.cell? ⟨b, j, none⟩ = some u := fun W hW j u hc => (hW.cell (p := ⟨b, j, none⟩) (by rw [hz2]; show b < _; omega)).trans (by rw [hW1, World.cell?_alloc_lt _ _ ⟨b, j, none⟩ (by show b < _; omega)]; exact hc)
    have KK := Lib.hid kk
    have KT : Hid (∀ W, Below W1.heap.size W1 W → W.cell? ⟨u1.heap.size, 3, none⟩ = some (.slice (some ⟨b, o, none⟩) NL cl)) := fun W hW => (hW.cell (p := ⟨u1.heap.size, 3, none⟩) (by rw [hz2]; show u1.heap.size < _; omega)).trans (by rw [hW1, World.cell?_alloc_at _ _ _ _ rfl]; rfl)
    have IS := Lib.hid (And.intro i0 (And.intro i1 (And.intro i2 (And.intro i3 i4))))
    have R4 := Lib.hid (And.intro b4 r4)
    have HBB := Lib.hid hbB
    have HRW := Lib.hid hs'
    have HZ2 := Lib.hid hz2
    rw [← hW1] at B1 Y1
    have t3 := KT.out _ (Below.refl _ _)
    have t0 : W1.cell? ⟨u1.heap.size, 0, none⟩ = some (.int .i64 4) := by rw [hW1, World.cell?_alloc_at _ _ _ _ rfl]; rfl
    have s3 := KK.out _ (Below.refl _ _) _ _ i3
    have HCL := Lib.hid hcl
    rw [hW1] at t3 t0 s3
    clear hv hv' hb hb2 hz1 CD hrow hs' i0 i1 i2 i3 i4 x0 x1 x2 x3 x4 b0 b1 b2 b3 b4 r4 kk hz2 hbB hcl
    rw [hW1] at B1 Y1
    clear KK KT IS
    obtain ⟨⟨z0, z1, z2, z3, z4⟩, f0, f1, f2, f3, f4⟩ := HZ.out _ Y1.out
    go_wp2_with fail
    exact bodyPost_ret (v := .tuple #[blkV 0 0 0 0 none 0 0, .int .i64 0, .int .i64 50]) (by simp [results, Tryz.results5, go_sem, z0, z1, z2, z3, z4, blkV]) rfl (HNO.out _ _ 50 HD.out (by first | exact B1.out | exact below_put5 B1.out (Nat.le_refl _)) rfl)
  have h3i : ¬ (2 : Int) < (m3 : Int) := by omega
  have hw3 : IntKind.i64.wrap (m3 : Int) = (m3 : Int) := by rw [i64eq]; unfold wrap64; omega
  have hwr : wrap64 (m3 : Int) = (m3 : Int) := by unfold wrap64; omega
  have H3 := Lib.hid h3
  rw [hwr] at HTB HTK
  clear hs0 h3 hwr
  go_enter Tryz.func5, Tryz.ntmps5
  go_wp2_with fail
  refine CD.out.mono ?_
  rintro e u1 ⟨v, rfl, hv, hb⟩
  have hv' := hv.unmask
  obtain ⟨A1, nd1, cd1, AL, cl, rfl, -, -, -, -, hcl, hrow⟩ := hv'.open
  rw [← HNL.out] at hcl hrow ⊢
  rw [HS0.out] at hb
  have hz1 : w.heap.size + 1 ≤ u1.heap.size := by have := hb.size; rw [HS0.out] at this; exact this
  have hb2 := hb.alloc hz1 (.cells #[.int .i64 4, .int .u64 (n0 : Int), .slice A1 nd1 cd1, .slice AL NL cl] 42)
  have B1 := Lib.hid (HB0.out.trans (hb2.mono (Nat.le_succ _)))
  have Y1 := Lib.hid hb2
  have HZ1 := Lib.hid hz1
  obtain ⟨b, o, rfl, hbB, hs⟩ := hrow (by omega)
  have hs' := hs
  rw [HLQ.out] at hs
  rw [RdIs, RdIs, RdIs, RdIs, RdIs] at hs
  obtain ⟨⟨a00, a01, a02, a03, -, i0, -, -, x0⟩, ⟨a10, a11, a12, a13, -, i1, -, -, x1⟩, ⟨a20, a21, a22, a23, -, i2, -, -, x2⟩, ⟨a30, a31, a32, a33, -, i3, -, -, x3⟩, ⟨a40, a41, a42, a43, -, -, i4, -, x4⟩, -⟩ := hs
  obtain ⟨-, -, -, -, rfl, -, b0, -, -⟩ := x0.cells
  obtain ⟨-, -, -, -, rfl, -, b1, -, -⟩ := x1.cells
  obtain ⟨-, -, -, -, rfl, -, b2, -, -⟩ := x2.cells
  obtain ⟨-, -, -, -, rfl, -, b3, -, -⟩ := x3.cells
  obtain ⟨A4, nd4, cd4, -, -, rfl, -, b4, r4⟩ := x4.cells
  obtain ⟨W1, hW1⟩ : ∃ W1, W1 = u1.alloc (.cells #[.int .i64 4, .int .u64 (n0 : Int), .slice A1 nd1 cd1, .slice (some ⟨b, o, none⟩) NL cl] 42) := ⟨_, rfl⟩
  have hz2 : W1.heap.size = u1.heap.size + 1 := by rw [hW1]; simp
  have kk : ∀ W, Below W1.heap.size W1 W → ∀ j u, u1.cell? ⟨b, j, none⟩ = some u → W.cell? ⟨b, j, none⟩ = some u := fun W hW j u hc => (hW.cell (p := ⟨b, j, none⟩) (by rw [hz2]; show b < _; omega)).trans (by rw [hW1, World.cell?_alloc_lt _ _ ⟨b, j, none⟩ (by show b < _; omega)]; exact hc)
  have KK := Lib.hid kk
  have KT : Hid (∀ W, Below W1.heap.size W1 W → W.cell? ⟨u1.heap.size, 3, none⟩ = some (.slice (some ⟨b, o, none⟩) NL cl)) := fun W hW => (hW.cell (p := ⟨u1.heap.size, 3, none⟩) (by rw [hz2]; show u1.heap.size < _; omega)).trans (by rw [hW1, World.cell?_alloc_at _ _ _ _ rfl]; rfl)
  have IS := Lib.hid (And.intro i0 (And.intro i1 (And.intro i2 (And.intro i3 i4))))
  have R4 := Lib.hid (And.intro b4 r4)
  have HBB := Lib.hid hbB
  have HRW := Lib.hid hs'
  have HZ2 := Lib.hid hz2
  rw [← hW1] at B1 Y1
  have t3 := KT.out _ (Below.refl _ _)
  have t0 : W1.cell? ⟨u1.heap.size, 0, none⟩ = some (.int .i64 4) := by rw [hW1, World.cell?_alloc_at _ _ _ _ rfl]; rfl
  have s3 := KK.out _ (Below.refl _ _) _ _ i3
  have HCL := Lib.hid hcl
  rw [hW1] at t3 t0 s3
  clear hv hv' hb hb2 hz1 CD hrow hs' i0 i1 i2 i3 i4 x0 x1 x2 x3 x4 b0 b1 b2 b3 b4 r4 kk hz2 hbB hcl
  have UW : Hid (Below u1.heap.size u1 W1) := by show Below _ _ _; rw [hW1]; exact (Below.refl _ _).alloc (Nat.le_refl _) _
  go_upto_region 6 with fail
  rw [← hW1]
  go_cut [8] (fun p wx => ∃ (gx : Nat) (A5 : Option Addr) (c5 : Nat), p = .pointer (some ⟨gx, 0, none⟩) ∧ Hid (wx.heap[gx]? = some (.cells #[.int .u64 (m0 : Int), .int .u64 (m1 : Int), .int .u64 (m2 : Int), .int .i64 (m3 : Int), .slice A5 d4.length c5] 25 (0, 0)) ∧ d4.length ≤ c5 ∧ c5 ≤ 9223372036854775807 ∧ Rd wx wx.heap.size A5 d4.length d4 ∧ Below W1.heap.size W1 wx ∧ W1.heap.size ≤ gx))
  case first =>
    go_wp2_with fail
    rw [← hW1]
    have KF : Hid (∀ W, Below W1.heap.size W1 W → (W.cell? ⟨u1.heap.size, 3, none⟩ = some (.slice (some ⟨b, o, none⟩) NL cl) ∧ W.cell? ⟨b, o + 1, none⟩ = some (.int .u64 (m0 : Int)) ∧ W.cell? ⟨b, o + 4 + 1, none⟩ = some (.int .u64 (m1 : Int)) ∧ W.cell? ⟨b, o + 4 + 4 + 1, none⟩ = some (.int .u64 (m2 : Int)) ∧ W.cell? ⟨b, o + 4 + 4 + 4 + 1, none⟩ = some (.int .u64 (m3 : Int)) ∧ W.cell? ⟨b, o + 4 + 4 + 4 + 4 + 2, none⟩ = some (.slice A4 nd4 cd4))) := fun W hW => ⟨KT.out W hW, KK.out W hW _ _ IS.out.1, KK.out W hW _ _ IS.out.2.1, KK.out W hW _ _ IS.out.2.2.1, KK.out W hW _ _ IS.out.2.2.2.1, KK.out W hW _ _ IS.out.2.2.2.2⟩
    clear t3 t0 s3
    have RX : Hid (∀ W, Below W1.heap.size W1 W → Rd W u1.heap.size A4 nd4 d4) := fun W hW => by
      have h1 : Rd W1 u1.heap.size A4 nd4 d4 := by rw [hW1]; exact R4.out.2.alloc (Nat.le_refl _) _
      exact h1.below (hW.mono (by rw [HZ2.out]; omega))
    have HND : Hid (0 + nd4 ≤ 140737488355328) := by have := R4.out.1.2; show _ ≤ _; omega
    clear hW1
    refine wp_region_held_drew (S := fun W => Below W1.heap.size W1 W) (by kernel_rfl) Below.drew_ (fun hHeld => ?_)
    refine takeR (i := 0) (v := ?v0_1) rfl (by kernel_rfl) (by kernel_rfl) (by kernel_rfl) (fun _ _ _ h => h) (by rfl) ?hy0_1 (by assumption) ?rest0_1
    case hy0_1 => (intro W hSw; go_simp; try with_reducible rfl)
    try simp only [Act.put]
    try simp only [List.setIfInBounds_toArray]
    try simp only [List.set_cons_succ]
    try simp only [List.set_cons_zero]
    refine takeR (i := 1) (v := ?v1_2) rfl (by kernel_rfl) (by kernel_rfl) (by kernel_rfl) (fun _ _ _ h => h) (by rfl) ?hy1_2 (by assumption) ?rest1_2
    case hy1_2 => (intro W hSw; obtain ⟨q0, q1, q2, q3, q4, q5⟩ := KF.out W hSw; go_simp; try with_reducible rfl)
    try simp only [Act.put]
    try simp only [List.setIfInBounds_toArray]
    try simp only [List.set_cons_succ]
    try simp only [List.set_cons_zero]
    refine takeR (i := 2) (v := ?v2_3) rfl (by kernel_rfl) (by kernel_rfl) (by kernel_rfl) (fun _ _ _ h => h) (by rfl) ?hy2_3 (by assumption) ?rest2_3
    case hy2_3 => (intro W hSw; go_simp; try with_reducible rfl)
    try simp only [Act.put]
    try simp only [List.setIfInBounds_toArray]
    try simp only [List.set_cons_succ]
    try simp only [List.set_cons_zero]
    refine takeR (i := 3) (v := ?v3_4) rfl (by kernel_rfl) (by kernel_rfl) (by kernel_rfl) (fun _ _ _ h => h) (by rfl) ?hy3_4 (by assumption) ?rest3_4
    case hy3_4 => (intro W hSw; go_simp; try with_reducible rfl)
    try simp only [Act.put]
    try simp only [List.setIfInBounds_toArray]
    try simp only [List.set_cons_succ]
    try simp only [List.set_cons_zero]
    refine takeR (i := 4) (v := ?v4_5) rfl (by kernel_rfl) (by kernel_rfl) (by kernel_rfl) (fun _ _ _ h => h) (by rfl) ?hy4_5 (by assumption) ?rest4_5
    case hy4_5 => (intro W hSw; obtain ⟨q0, q1, q2, q3, q4, q5⟩ := KF.out W hSw; go_simp; try with_reducible rfl)
    try simp only [Act.put]
    try simp only [List.setIfInBounds_toArray]
    try simp only [List.set_cons_succ]
    try simp only [List.set_cons_zero]
    refine takeR (i := 5) (v := ?v5_6) rfl (by kernel_rfl) (by kernel_rfl) (by kernel_rfl) (fun _ _ _ h => h) (by rfl) ?hy5_6 (by assumption) ?rest5_6
    case hy5_6 => (intro W hSw; go_simp; try with_reducible rfl)
    try simp only [Act.put]
    try simp only [List.setIfInBounds_toArray]
    try simp only [List.set_cons_succ]
    try simp only [List.set_cons_zero]
    refine takeR (i := 6) (v := ?v6_7) rfl (by kernel_rfl) (by kernel_rfl) (by kernel_rfl) (fun _ _ _ h => h) (by rfl) ?hy6_7 (by assumption) ?rest6_7
    case hy6_7 => (intro W hSw; obtain ⟨q0, q1, q2, q3, q4, q5⟩ := KF.out W hSw; go_simp; try with_reducible rfl)
    try simp only [Act.put]
    try simp only [List.setIfInBounds_toArray]
    try simp only [List.set_cons_succ]
    try simp only [List.set_cons_zero]
    refine takeR (i := 7) (v := ?v7_8) rfl (by kernel_rfl) (by kernel_rfl) (by kernel_rfl) (fun _ _ _ h => h) (by rfl) ?hy7_8 (by assumption) ?rest7_8
    case hy7_8 => (intro W hSw; go_simp; try with_reducible rfl)
    try simp only [Act.put]
    try simp only [List.setIfInBounds_toArray]
    try simp only [List.set_cons_succ]
    try simp only [List.set_cons_zero]
    refine takeR (i := 8) (v := ?v8_9) rfl (by kernel_rfl) (by kernel_rfl) (by kernel_rfl) (fun _ _ _ h => h) (by rfl) ?hy8_9 (by assumption) ?rest8_9
    case hy8_9 => (intro W hSw; go_simp; try with_reducible rfl)
    try simp only [Act.put]
    try simp only [List.setIfInBounds_toArray]
    try simp only [List.set_cons_succ]
    try simp only [List.set_cons_zero]
    refine takeR (i := 9) (v := ?v9_10) rfl (by kernel_rfl) (by kernel_rfl) (by kernel_rfl) (fun _ _ _ h => h) (by rfl) ?hy9_10 (by assumption) ?rest9_10
    case hy9_10 => (intro W hSw; obtain ⟨q0, q1, q2, q3, q4, q5⟩ := KF.out W hSw; go_simp; try with_reducible rfl)
    try simp only [Act.put]
    try simp only [List.setIfInBounds_toArray]
    try simp only [List.set_cons_succ]
    try simp only [List.set_cons_zero]
    refine takeR (i := 10) (v := ?v10_11) rfl (by kernel_rfl) (by kernel_rfl) (by kernel_rfl) (fun _ _ _ h => h) (by rfl) ?hy10_11 (by assumption) ?rest10_11
    case hy10_11 => (intro W hSw; go_simp; try with_reducible rfl)
    try simp only [Act.put]
    try simp only [List.setIfInBounds_toArray]
    try simp only [List.set_cons_succ]
    try simp only [List.set_cons_zero]
    refine takeR (i := 11) (v := ?v11_12) rfl (by kernel_rfl) (by kernel_rfl) (by kernel_rfl) (fun _ _ _ h => h) (by rfl) ?hy11_12 (by assumption) ?rest11_12
    case hy11_12 => (intro W hSw; obtain ⟨q0, q1, q2, q3, q4, q5⟩ := KF.out W hSw; go_simp; try with_reducible rfl)
    try simp only [Act.put]
    try simp only [List.setIfInBounds_toArray]
    try simp only [List.set_cons_succ]
    try simp only [List.set_cons_zero]
    refine takeR (i := 12) (v := ?v12_13) rfl (by kernel_rfl) (by kernel_rfl) (by kernel_rfl) (fun _ _ _ h => h) (by rfl) ?hy12_13 (by assumption) ?rest12_13
    case hy12_13 => (intro W hSw; go_simp; try with_reducible rfl)
    try simp only [Act.put]
    try simp only [List.setIfInBounds_toArray]
    try simp only [List.set_cons_succ]
    try simp only [List.set_cons_zero]
    refine takeR (i := 13) (v := ?v13_14) rfl (by kernel_rfl) (by kernel_rfl) (by kernel_rfl) (fun _ _ _ h => h) (by rfl) ?hy13_14 (by assumption) ?rest13_14
    case hy13_14 => (intro W hSw; go_simp; try with_reducible rfl)
    try simp only [Act.put]
    try simp only [List.setIfInBounds_toArray]
    try simp only [List.set_cons_succ]
    try simp only [List.set_cons_zero]
    refine takeR (i := 14) (v := ?v14_15) rfl (by kernel_rfl) (by kernel_rfl) (by kernel_rfl) (fun _ _ _ h => h) (by rfl) ?hy14_15 (by assumption) ?rest14_15
    case hy14_15 => (intro W hSw; obtain ⟨q0, q1, q2, q3, q4, q5⟩ := KF.out W hSw; go_simp; try with_reducible rfl)
    try simp only [Act.put]
    try simp only [List.setIfInBounds_toArray]
    try simp only [List.set_cons_succ]
    try simp only [List.set_cons_zero]
    refine takeR (i := 15) (v := ?v15_16) rfl (by kernel_rfl) (by kernel_rfl) (by kernel_rfl) (fun _ _ _ h => h) (by rfl) ?hy15_16 (by assumption) ?rest15_16
    case hy15_16 => (intro W hSw; go_simp; try with_reducible rfl)
    try simp only [Act.put]
    try simp only [List.setIfInBounds_toArray]
    try simp only [List.set_cons_succ]
    try simp only [List.set_cons_zero]
    refine takeR (i := 16) (v := ?v16_17) rfl (by kernel_rfl) (by kernel_rfl) (by kernel_rfl) (fun _ _ _ h => h) (by rfl) ?hy16_17 (by assumption) ?rest16_17
    case hy16_17 => (intro W hSw; obtain ⟨q0, q1, q2, q3, q4, q5⟩ := KF.out W hSw; go_simp; try with_reducible rfl)
    try simp only [Act.put]
    try simp only [List.setIfInBounds_toArray]
    try simp only [List.set_cons_succ]
    try simp only [List.set_cons_zero]
    refine takeR (i := 17) (v := ?v17_18) rfl (by kernel_rfl) (by kernel_rfl) (by kernel_rfl) (fun _ _ _ h => h) (by rfl) ?hy17_18 (by assumption) ?rest17_18
    case hy17_18 => (intro W hSw; go_simp; try with_reducible rfl)
    try simp only [Act.put]
    try simp only [List.setIfInBounds_toArray]
    try simp only [List.set_cons_succ]
    try simp only [List.set_cons_zero]
    refine takeR (i := 18) (v := ?v18_19) rfl (by kernel_rfl) (by kernel_rfl) (by kernel_rfl) (fun _ _ _ h => h) (by rfl) ?hy18_19 (by assumption) ?rest18_19
    case hy18_19 => (intro W hSw; go_simp; try with_reducible rfl)
    try simp only [Act.put]
    try simp only [List.setIfInBounds_toArray]
    try simp only [List.set_cons_succ]
    try simp only [List.set_cons_zero]
    refine takeR (i := 19) (v := ?v19_20) rfl (by kernel_rfl) (by kernel_rfl) (by kernel_rfl) (fun _ _ _ h => h) (by rfl) ?hy19_20 (by assumption) ?rest19_20
    case hy19_20 => (intro W hSw; obtain ⟨q0, q1, q2, q3, q4, q5⟩ := KF.out W hSw; go_simp; try with_reducible rfl)
    try simp only [Act.put]
    try simp only [List.setIfInBounds_toArray]
    try simp only [List.set_cons_succ]
    try simp only [List.set_cons_zero]
    refine takeR (i := 20) (v := ?v20_21) rfl (by kernel_rfl) (by kernel_rfl) (by kernel_rfl) (fun _ _ _ h => h) (by rfl) ?hy20_21 (by assumption) ?rest20_21
    case hy20_21 => (intro W hSw; go_simp; try with_reducible rfl)
    try simp only [Act.put]
    try simp only [List.setIfInBounds_toArray]
    try simp only [List.set_cons_succ]
    try simp only [List.set_cons_zero]
    refine takeR (i := 22) (v := ?v22_22) rfl (by kernel_rfl) (by kernel_rfl) (by kernel_rfl) (fun _ _ _ h => h) (by rfl) ?hy22_22 (by assumption) ?rest22_22
    case hy22_22 => (intro W hSw; go_simp; try with_reducible rfl)
    try simp only [Act.put]
    try simp only [List.setIfInBounds_toArray]
    try simp only [List.set_cons_succ]
    try simp only [List.set_cons_zero]
    refine takeR (i := 23) (v := ?v23_23) rfl (by kernel_rfl) (by kernel_rfl) (by kernel_rfl) (fun _ _ _ h => h) (by rfl) ?hy23_23 (by assumption) ?rest23_23
    case hy23_23 => (intro W hSw; obtain ⟨q0, q1, q2, q3, q4, q5⟩ := KF.out W hSw; go_simp; try with_reducible rfl)
    try simp only [Act.put]
    try simp only [List.setIfInBounds_toArray]
    try simp only [List.set_cons_succ]
    try simp only [List.set_cons_zero]
    refine takeR (i := 24) (v := ?v24_24) rfl (by kernel_rfl) (by kernel_rfl) (by kernel_rfl) (fun _ _ _ h => h) (by rfl) ?hy24_24 (by assumption) ?rest24_24
    case hy24_24 => (intro W hSw; go_simp; try with_reducible rfl)
    try simp only [Act.put]
    try simp only [List.setIfInBounds_toArray]
    try simp only [List.set_cons_succ]
    try simp only [List.set_cons_zero]
    refine takeR (i := 25) (v := ?v25_25) rfl (by kernel_rfl) (by kernel_rfl) (by kernel_rfl) (fun _ _ _ h => h) (by rfl) ?hy25_25 (by assumption) ?rest25_25
    case hy25_25 => (intro W hSw; go_simp; try with_reducible rfl)
    try simp only [Act.put]
    try simp only [List.setIfInBounds_toArray]
    try simp only [List.set_cons_succ]
    try simp only [List.set_cons_zero]
    refine takeR (i := 26) (v := ?v26_26) rfl (by kernel_rfl) (by kernel_rfl) (by kernel_rfl) (fun _ _ _ h => h) (by rfl) ?hy26_26 (by assumption) ?rest26_26
    case hy26_26 => (intro W hSw; obtain ⟨q0, q1, q2, q3, q4, q5⟩ := KF.out W hSw; go_simp; try with_reducible rfl)
    try simp only [Act.put]
    try simp only [List.setIfInBounds_toArray]
    try simp only [List.set_cons_succ]
    try simp only [List.set_cons_zero]
    have BT : Hid (Below W1.heap.size W1 W1.drew) := Below.drew_
    clear hHeld
    obtain ⟨wc, hwc⟩ : ∃ wc, wc = W1.drew := ⟨_, rfl⟩
    rw [← hwc] at BT
    rw [← hwc]
    clear hwc
    refine wpAnyH_ready (rs := [21, 29]) (by kernel_rfl) (by simp) ?_
    refine AllReadyH.cons rfl (fun K hK => ?_) ?_
    · skip
      rw [if_pos (by rfl)]
      go_simp
      have OC : Hid (Ob (wc.alloc (.cells #[] 5)) W1.heap.size 5 (.slice (some ⟨wc.heap.size, 0, none⟩) 0 0) []) := Ob.lit wc [] #[] rfl BT.out.size 0 rfl (by decide)
      have BT2 : Hid (Below W1.heap.size W1 (wc.alloc (.cells #[] 5))) := BT.out.alloc BT.out.size _
      clear BT
      have BT := BT2
      clear BT2
      refine hK.out _ _ BT.out (fun hHeld => ?_)
      try simp only [Act.put]
      try simp only [List.setIfInBounds_toArray]
      try simp only [List.set_cons_succ]
      try simp only [List.set_cons_zero]
      clear hK K hHeld
      generalize wc.alloc (.cells #[] 5) = wd at *
      generalize wc.heap.size = g0 at *
      clear wc
      obtain ⟨wc, rfl⟩ : ∃ wc, wc = wd := ⟨_, rfl⟩
      refine wpAnyH_ready (rs := [27, 29]) (by kernel_rfl) (by simp) ?_
      refine AllReadyH.cons rfl (fun K hK => ?_) ?_
      · skip
        refine step_appG (by rfl) (.tmp 63) (.tmp 68) 22 (by rfl) W1.heap.size 5 Tryz.underlying22 info_u8 (.slice (some ⟨g0, 0, none⟩) 0 0) [] (by rfl) OC.out u1.heap.size A4 nd4 cd4 d4 (by rfl) (RX.out _ BT.out) HND.out BT.out.size ?_
        intro v6 wd ho hg
        rw [List.nil_append] at ho
        have hat : v6.ownBlock ≠ some wc.heap.size ∨ True := .inr trivial
        have BT2 : Hid (Below W1.heap.size W1 wd) := gb_below6 BT.out hg OC.out BT.out.size
        have OC2 := Lib.hid ho
        clear OC
        have OC := OC2
        clear OC2
        clear BT
        have BT := BT2
        clear BT2
        clear ho hg hat
        show K (Act.put _ (some 69) v6) wd
        refine hK.out _ _ BT.out (fun hHeld => ?_)
        try simp only [Act.put]
        try simp only [List.setIfInBounds_toArray]
        try simp only [List.set_cons_succ]
        try simp only [List.set_cons_zero]
        clear hK K hHeld
        clear wc
        obtain ⟨wc, rfl⟩ : ∃ wc, wc = wd := ⟨_, rfl⟩
        obtain ⟨A5, c5, rfl, hc5, hm5, -⟩ := OC.out.rd
        have HC5 := Lib.hid (And.intro hc5 hm5)
        clear hc5 hm5
        have hHeld := BT.out
        refine takeR (i := 28) (v := ?v28_27) rfl (by kernel_rfl) (by kernel_rfl) (by kernel_rfl) (fun _ _ _ h => h) (by rfl) ?hy28_27 (by assumption) ?rest28_27
        case hy28_27 => (intro W hSw; go_simp; try with_reducible rfl)
        try simp only [Act.put]
        try simp only [List.setIfInBounds_toArray]
        try simp only [List.set_cons_succ]
        try simp only [List.set_cons_zero]
        clear hHeld
        refine wpAnyH_ready (rs := [29]) (by kernel_rfl) (by simp) ?_
        refine AllReadyH.cons rfl (fun K hK => ?_) AllReadyH.nil
        rw [if_pos (by rfl)]
        go_simp
        have ZR : Hid ((wc.alloc (.cells #[.int .u64 0, .int .u64 0, .int .u64 0, .int .i64 0, .slice none 0 0] 25)).heap[wc.heap.size]? = some (.cells #[.int .u64 0, .int .u64 0, .int .u64 0, .int .i64 0, .slice none 0 0] 25 (0, 0))) := heap_alloc_new wc _
        have HGB : Hid (W1.heap.size ≤ wc.heap.size) := BT.out.size
        have NZ : Hid ((Value.ownBlock (Value.slice A5 d4.length c5)) ≠ some wc.heap.size) := fun e => by have := (World.ownsRow.lt OC.out _ e).2; omega
        have OC2 := Lib.hid (OC.out.alloc (.cells #[.int .u64 0, .int .u64 0, .int .u64 0, .int .i64 0, .slice none 0 0] 25))
        clear OC
        have OC := OC2
        clear OC2
        have BT2 : Hid (Below W1.heap.size W1 (wc.alloc (.cells #[.int .u64 0, .int .u64 0, .int .u64 0, .int .i64 0, .slice none 0 0] 25))) := BT.out.alloc BT.out.size _
        clear BT
        have BT := BT2
        clear BT2
        refine hK.out _ _ BT.out (fun hHeld => ?_)
        try simp only [Act.put]
        try simp only [List.setIfInBounds_toArray]
        try simp only [List.set_cons_succ]
        try simp only [List.set_cons_zero]
        clear hK K hHeld
        generalize wc.alloc (.cells #[.int .u64 0, .int .u64 0, .int .u64 0, .int .i64 0, .slice none 0 0] 25) = wd at *
        generalize wc.heap.size = gb at *
        clear wc
        obtain ⟨wc, rfl⟩ : ∃ wc, wc = wd := ⟨_, rfl⟩
        refine wpAnyH_ready (rs := [30]) (by kernel_rfl) (by simp) ?_
        refine AllReadyH.cons rfl (fun K hK => ?_) AllReadyH.nil
        refine step_st5 (by rfl) 25 (.tmp 8) (.tmp 70) (by rfl) gb _ _ _ _ _ (by rfl) (by rfl) 25 _ ZR.out (by kernel_rfl) rfl rfl ?_
        intro w8 h81 h82 h83 h84
        have B8 := Lib.hid (h82 _ _ BT.out HGB.out)
        have OC8 := (Ob.far OC.out NZ.out h84).rd_
        have H8 := Lib.hid (And.intro h81 OC8.2.1)
        refine hK.out _ _ B8.out (fun hHeld => ?_)
        try simp only [Act.put]
        try simp only [List.setIfInBounds_toArray]
        try simp only [List.set_cons_succ]
        try simp only [List.set_cons_zero]
        clear hK K hHeld h81 h82 h83 h84 OC8
        refine wpAnyH_done (by kernel_rfl) ?_ _
        go_wp2_with fail
        go_meet
        case rel => exact ⟨gb, A5, c5, rfl, ⟨H8.out.1, HC5.out.1, HC5.out.2, H8.out.2, B8.out, HGB.out⟩⟩
      refine AllReadyH.cons rfl (fun K hK => ?_) AllReadyH.nil
      rw [if_pos (by rfl)]
      go_simp
      have ZR : Hid ((wc.alloc (.cells #[.int .u64 0, .int .u64 0, .int .u64 0, .int .i64 0, .slice none 0 0] 25)).heap[wc.heap.size]? = some (.cells #[.int .u64 0, .int .u64 0, .int .u64 0, .int .i64 0, .slice none 0 0] 25 (0, 0))) := heap_alloc_new wc _
      have HGB : Hid (W1.heap.size ≤ wc.heap.size) := BT.out.size
      have NZ : Hid ((Value.ownBlock (.slice (some ⟨g0, 0, none⟩) 0 0)) ≠ some wc.heap.size) := fun e => by have := (World.ownsRow.lt OC.out _ e).2; omega
      have OC2 := Lib.hid (OC.out.alloc (.cells #[.int .u64 0, .int .u64 0, .int .u64 0, .int .i64 0, .slice none 0 0] 25))
      clear OC
      have OC := OC2
      clear OC2
      have BT2 : Hid (Below W1.heap.size W1 (wc.alloc (.cells #[.int .u64 0, .int .u64 0, .int .u64 0, .int .i64 0, .slice none 0 0] 25))) := BT.out.alloc BT.out.size _
      clear BT
      have BT := BT2
      clear BT2
      refine hK.out _ _ BT.out (fun hHeld => ?_)
      try simp only [Act.put]
      try simp only [List.setIfInBounds_toArray]
      try simp only [List.set_cons_succ]
      try simp only [List.set_cons_zero]
      clear hK K hHeld
      generalize wc.alloc (.cells #[.int .u64 0, .int .u64 0, .int .u64 0, .int .i64 0, .slice none 0 0] 25) = wd at *
      generalize wc.heap.size = gb at *
      clear wc
      obtain ⟨wc, rfl⟩ : ∃ wc, wc = wd := ⟨_, rfl⟩
      refine wpAnyH_ready (rs := [27]) (by kernel_rfl) (by simp) ?_
      refine AllReadyH.cons rfl (fun K hK => ?_) AllReadyH.nil
      refine step_appG (by rfl) (.tmp 63) (.tmp 68) 22 (by rfl) W1.heap.size 5 Tryz.underlying22 info_u8 (.slice (some ⟨g0, 0, none⟩) 0 0) [] (by rfl) OC.out u1.heap.size A4 nd4 cd4 d4 (by rfl) (RX.out _ BT.out) HND.out BT.out.size ?_
      intro v6 wd ho hg
      rw [List.nil_append] at ho
      have hat : v6.ownBlock ≠ some wc.heap.size ∨ True := .inr trivial
      have BT2 : Hid (Below W1.heap.size W1 wd) := gb_below6 BT.out hg OC.out BT.out.size
      have ZR2 : Hid (wd.heap[gb]? = some (.cells #[.int .u64 0, .int .u64 0, .int .u64 0, .int .i64 0, .slice none 0 0] 25 (0, 0))) := (hg.block gb (lt_of_some ZR.out) (fun e => NZ.out e.symm)).trans ZR.out
      have NZ2 : Hid (v6.ownBlock ≠ some gb) := own_type ho ZR2.out
      clear NZ
      have NZ := NZ2
      clear NZ2
      clear ZR
      have ZR := ZR2
      clear ZR2
      have OC2 := Lib.hid ho
      clear OC
      have OC := OC2
      clear OC2
      clear BT
      have BT := BT2
      clear BT2
      clear ho hg hat
      show K (Act.put _ (some 69) v6) wd
      refine hK.out _ _ BT.out (fun hHeld => ?_)
      try simp only [Act.put]
      try simp only [List.setIfInBounds_toArray]
      try simp only [List.set_cons_succ]
      try simp only [List.set_cons_zero]
      clear hK K hHeld
      clear wc
      obtain ⟨wc, rfl⟩ : ∃ wc, wc = wd := ⟨_, rfl⟩
      obtain ⟨A5, c5, rfl, hc5, hm5, -⟩ := OC.out.rd
      have HC5 := Lib.hid (And.intro hc5 hm5)
      clear hc5 hm5
      have hHeld := BT.out
      refine takeR (i := 28) (v := ?v28_28) rfl (by kernel_rfl) (by kernel_rfl) (by kernel_rfl) (fun _ _ _ h => h) (by rfl) ?hy28_28 (by assumption) ?rest28_28
      case hy28_28 => (intro W hSw; go_simp; try with_reducible rfl)
      try simp only [Act.put]
      try simp only [List.setIfInBounds_toArray]
      try simp only [List.set_cons_succ]
      try simp only [List.set_cons_zero]
      clear hHeld
      refine wpAnyH_ready (rs := [30]) (by kernel_rfl) (by simp) ?_
      refine AllReadyH.cons rfl (fun K hK => ?_) AllReadyH.nil
      refine step_st5 (by rfl) 25 (.tmp 8) (.tmp 70) (by rfl) gb _ _ _ _ _ (by rfl) (by rfl) 25 _ ZR.out (by kernel_rfl) rfl rfl ?_
      intro w8 h81 h82 h83 h84
      have B8 := Lib.hid (h82 _ _ BT.out HGB.out)
      have OC8 := (Ob.far OC.out NZ.out h84).rd_
      have H8 := Lib.hid (And.intro h81 OC8.2.1)
      refine hK.out _ _ B8.out (fun hHeld => ?_)
      try simp only [Act.put]
      try simp only [List.setIfInBounds_toArray]
      try simp only [List.set_cons_succ]
      try simp only [List.set_cons_zero]
      clear hK K hHeld h81 h82 h83 h84 OC8
      refine wpAnyH_done (by kernel_rfl) ?_ _
      go_wp2_with fail
      go_meet
      case rel => exact ⟨gb, A5, c5, rfl, ⟨H8.out.1, HC5.out.1, HC5.out.2, H8.out.2, B8.out, HGB.out⟩⟩
    refine AllReadyH.cons rfl (fun K hK => ?_) AllReadyH.nil
    rw [if_pos (by rfl)]
    go_simp
    have ZR : Hid ((wc.alloc (.cells #[.int .u64 0, .int .u64 0, .int .u64 0, .int .i64 0, .slice none 0 0] 25)).heap[wc.heap.size]? = some (.cells #[.int .u64 0, .int .u64 0, .int .u64 0, .int .i64 0, .slice none 0 0] 25 (0, 0))) := heap_alloc_new wc _
    have HGB : Hid (W1.heap.size ≤ wc.heap.size) := BT.out.size
    have BT2 : Hid (Below W1.heap.size W1 (wc.alloc (.cells #[.int .u64 0, .int .u64 0, .int .u64 0, .int .i64 0, .slice none 0 0] 25))) := BT.out.alloc BT.out.size _
    clear BT
    have BT := BT2
    clear BT2
    refine hK.out _ _ BT.out (fun hHeld => ?_)
    try simp only [Act.put]
    try simp only [List.setIfInBounds_toArray]
    try simp only [List.set_cons_succ]
    try simp only [List.set_cons_zero]
    clear hK K hHeld
    generalize wc.alloc (.cells #[.int .u64 0, .int .u64 0, .int .u64 0, .int .i64 0, .slice none 0 0] 25) = wd at *
    generalize wc.heap.size = gb at *
    clear wc
    obtain ⟨wc, rfl⟩ : ∃ wc, wc = wd := ⟨_, rfl⟩
    refine wpAnyH_ready (rs := [21]) (by kernel_rfl) (by simp) ?_
    refine AllReadyH.cons rfl (fun K hK => ?_) AllReadyH.nil
    rw [if_pos (by rfl)]
    go_simp
    have OC : Hid (Ob (wc.alloc (.cells #[] 5)) W1.heap.size 5 (.slice (some ⟨wc.heap.size, 0, none⟩) 0 0) []) := Ob.lit wc [] #[] rfl BT.out.size 0 rfl (by decide)
    have NZ : Hid ((Value.slice (some ⟨wc.heap.size, 0, none⟩) 0 0).ownBlock ≠ some gb) := fun e => by have e2 : wc.heap.size = gb := Option.some.inj e; have := lt_of_some ZR.out; omega
    have ZR2 : Hid ((wc.alloc (.cells #[] 5)).heap[gb]? = some (.cells #[.int .u64 0, .int .u64 0, .int .u64 0, .int .i64 0, .slice none 0 0] 25 (0, 0))) := (Below.heap_alloc _ _ _ (lt_of_some ZR.out)).trans ZR.out
    clear ZR
    have ZR := ZR2
    clear ZR2
    have BT2 : Hid (Below W1.heap.size W1 (wc.alloc (.cells #[] 5))) := BT.out.alloc BT.out.size _
    clear BT
    have BT := BT2
    clear BT2
    refine hK.out _ _ BT.out (fun hHeld => ?_)
    try simp only [Act.put]
    try simp only [List.setIfInBounds_toArray]
    try simp only [List.set_cons_succ]
    try simp only [List.set_cons_zero]
    clear hK K hHeld
    generalize wc.alloc (.cells #[] 5) = wd at *
    generalize wc.heap.size = g0 at *
    clear wc
    obtain ⟨wc, rfl⟩ : ∃ wc, wc = wd := ⟨_, rfl⟩
    refine wpAnyH_ready (rs := [27]) (by kernel_rfl) (by simp) ?_
    refine AllReadyH.cons rfl (fun K hK => ?_) AllReadyH.nil
    refine step_appG (by rfl) (.tmp 63) (.tmp 68) 22 (by rfl) W1.heap.size 5 Tryz.underlying22 info_u8 (.slice (some ⟨g0, 0, none⟩) 0 0) [] (by rfl) OC.out u1.heap.size A4 nd4 cd4 d4 (by rfl) (RX.out _ BT.out) HND.out BT.out.size ?_
    intro v6 wd ho hg
    rw [List.nil_append] at ho
    have hat : v6.ownBlock ≠ some wc.heap.size ∨ True := .inr trivial
    have BT2 : Hid (Below W1.heap.size W1 wd) := gb_below6 BT.out hg OC.out BT.out.size
    have ZR2 : Hid (wd.heap[gb]? = some (.cells #[.int .u64 0, .int .u64 0, .int .u64 0, .int .i64 0, .slice none 0 0] 25 (0, 0))) := (hg.block gb (lt_of_some ZR.out) (fun e => NZ.out e.symm)).trans ZR.out
    have NZ2 : Hid (v6.ownBlock ≠ some gb) := own_type ho ZR2.out
    clear NZ
    have NZ := NZ2
    clear NZ2
    clear ZR
    have ZR := ZR2
    clear ZR2
    have OC2 := Lib.hid ho
    clear OC
    have OC := OC2
    clear OC2
    clear BT
    have BT := BT2
    clear BT2
    clear ho hg hat
    show K (Act.put _ (some 69) v6) wd
    refine hK.out _ _ BT.out (fun hHeld => ?_)
    try simp only [Act.put]
    try simp only [List.setIfInBounds_toArray]
    try simp only [List.set_cons_succ]
    try simp only [List.set_cons_zero]
    clear hK K hHeld
    clear wc
    obtain ⟨wc, rfl⟩ : ∃ wc, wc = wd := ⟨_, rfl⟩
    obtain ⟨A5, c5, rfl, hc5, hm5, -⟩ := OC.out.rd
    have HC5 := Lib.hid (And.intro hc5 hm5)
    clear hc5 hm5
    have hHeld := BT.out
    refine takeR (i := 28) (v := ?v28_29) rfl (by kernel_rfl) (by kernel_rfl) (by kernel_rfl) (fun _ _ _ h => h) (by rfl) ?hy28_29 (by assumption) ?rest28_29
    case hy28_29 => (intro W hSw; go_simp; try with_reducible rfl)
    try simp only [Act.put]
    try simp only [List.setIfInBounds_toArray]
    try simp only [List.set_cons_succ]
    try simp only [List.set_cons_zero]
    clear hHeld
    refine wpAnyH_ready (rs := [30]) (by kernel_rfl) (by simp) ?_
    refine AllReadyH.cons rfl (fun K hK => ?_) AllReadyH.nil
    refine step_st5 (by rfl) 25 (.tmp 8) (.tmp 70) (by rfl) gb _ _ _ _ _ (by rfl) (by rfl) 25 _ ZR.out (by kernel_rfl) rfl rfl ?_
    intro w8 h81 h82 h83 h84
    have B8 := Lib.hid (h82 _ _ BT.out HGB.out)
    have OC8 := (Ob.far OC.out NZ.out h84).rd_
    have H8 := Lib.hid (And.intro h81 OC8.2.1)
    refine hK.out _ _ B8.out (fun hHeld => ?_)
    try simp only [Act.put]
    try simp only [List.setIfInBounds_toArray]
    try simp only [List.set_cons_succ]
    try simp only [List.set_cons_zero]
    clear hK K hHeld h81 h82 h83 h84 OC8
    refine wpAnyH_done (by kernel_rfl) ?_ _
    go_wp2_with fail
    go_meet
    case rel => exact ⟨gb, A5, c5, rfl, ⟨H8.out.1, HC5.out.1, HC5.out.2, H8.out.2, B8.out, HGB.out⟩⟩
  case rest =>
    obtain ⟨gx, A5, c5, rfl, hh⟩ := hcut
    have HX := hh
    have hw5 : d4.length ≤ 140737488355328 := by have := R4.out.1.2; have := R4.out.2.1; omega
    have CI := Lib.hid (ritems_any m0 m1 m2 m3 A5 d4.length c5 wc.heap.size d4 wc HTB.out.1 HTB.out.2.1 HTB.out.2.2 H3.out (Nat.le_refl _) HX.out.2.2.2.1 hw5)
    obtain ⟨⟨z0, z1, z2, z3, z4⟩, -⟩ := row5 HX.out.1
    clear hh hw5 hi1 hi2 hi3 hi4 hi0 hn1 hn2 hn3 hn4 hn0 hn0p t3 t0 s3
    unfold blkV at CI
    go_wp2_with fail
    refine CI.out.mono ?_
    rintro e w2 ⟨g7, rfl, hg7, hr7, hb7⟩
    have z3' : w2.cell? ⟨gx, 3, none⟩ = some (.int .i64 (m3 : Int)) := (hb7.cell (p := ⟨gx, 3, none⟩) (lt_of_some HX.out.1)).trans z3
    have H7 := Lib.hid (And.intro hg7 (And.intro hr7 hb7))
    clear z0 z1 z2 z3 z4 hg7 hr7 hb7 CI
    go_upto_if 75 with fail
    go_cut [9] (fun v wx => ∃ (g7 M cap : Nat), v = .slice (some ⟨g7, 0, none⟩) M cap ∧ Hid (M = (itsB ⟨m0, m1, m2, (m3 : Int), d4⟩).length ∧ M ≤ cap ∧ g7 < wx.heap.size ∧ RdIs wx wx.heap.size g7 0 (itsB ⟨m0, m1, m2, (m3 : Int), d4⟩) ∧ Below w2.heap.size w2 wx))
    case first =>
      by_cases hm0 : m3 = 0
      · subst hm0
        have tm : ¬ (0 : Int) < ((0 : Nat) : Int) := by decide
        have HF : Hid (5 = (itsB ⟨m0, m1, m2, ((0 : Nat) : Int), d4⟩).length ∧ 5 ≤ 5 ∧ g7 < w2.heap.size ∧ RdIs w2 w2.heap.size g7 0 (itsB ⟨m0, m1, m2, ((0 : Nat) : Int), d4⟩) ∧ Below w2.heap.size w2 w2) := by
          have e : itsB ⟨m0, m1, m2, ((0 : Nat) : Int), d4⟩ = partsB ⟨m0, m1, m2, ((0 : Nat) : Int), d4⟩ := by simp [itsB]
          rw [e]
          exact ⟨rfl, Nat.le_refl _, H7.out.1, H7.out.2.1, Below.refl _ _⟩
        go_wp2_with fail
        go_meet
        case rel => exact ⟨g7, 5, 5, rfl, HF⟩
      · have tm : (0 : Int) < (m3 : Int) := by omega
        obtain ⟨i0, hi0, hz0, hz1, hz2⟩ := info_parts info_item
        obtain ⟨j0, hj0, hj1, hj2, hj3⟩ := info_parts info_u8
        have HI := Lib.hid (And.intro hi0 (And.intro hz0 (And.intro hz1 hz2)))
        have HJ := Lib.hid (And.intro hj0 (And.intro hj1 (And.intro hj2 hj3)))
        obtain ⟨KK2, hKK⟩ : ∃ K, K = 2 * m3 := ⟨_, rfl⟩
        have h32 := H3.out
        have wk : IntKind.i64.wrap (2 * (m3 : Int)) = (KK2 : Int) := by rw [IntKind.wrap_i64]; omega
        have wk2 : wrap64 (2 * (m3 : Int)) = (KK2 : Int) := by unfold wrap64; omega
        have HKK : Hid (KK2 = sumN (m3 : Int) ∧ KK2 ≤ 4 ∧ (m3 : Int) ≠ 0) := by
          refine ⟨?_, by omega, by omega⟩
          have : m3 = 1 ∨ m3 = 2 := by omega
          rcases this with rfl | rfl <;> (rw [hKK]; rfl)
        obtain ⟨cs, n1, n2, n3, n4⟩ := H7.out.2.1.news
        have HNW := Lib.hid (And.intro n1 (And.intro n2 (And.intro n3 n4)))
        clear hi0 hz0 hz1 hz2 hj0 hj1 hj2 hj3 hKK h32 n1 n2 n3 n4 hm0
        go_wp2_with (first
          | (refine wpList_make_full _ rfl (.tmp 79) (.tmp 79) 22 rfl w2.heap.size 5 j0 (.int .u8 0) 1 Tryz.underlying22 HJ.out.1 HJ.out.2.1 HJ.out.2.2.1 .i64 .i64 _ _ KK2 rfl rfl (by first | rfl | exact wk2 | exact wk | omega) (by first | rfl | exact wk2 | exact wk | omega) (by rw [HJ.out.2.2.2]; have := HKK.out.2.1; omega) (by have := HKK.out.2.1; unfold maxLen; omega) (Nat.le_refl _) ?_; intro w3 ho3 hg3; have O3 := Lib.hid (And.intro ho3 hg3); clear ho3 hg3)
          | fail)
        have OB := Lib.hid (ob_made5 O3.out.1)
        have hb3 : Below w2.heap.size w2 w3 := ⟨O3.out.2.os, O3.out.2.tape, O3.out.2.output, O3.out.2.size, fun k hk => O3.out.2.block k hk (by simp)⟩
        refine (rbytesL_any w3.heap.size (some ⟨w2.heap.size, 0, none⟩) KK2 KK2 w3.heap.size (List.replicate KK2 0) w3 (Nat.le_refl _) (Nat.le_refl _) OB.out.rd_.2.1 (by have := HKK.out.2.1; omega)).mono ?_
        rintro e w4 ⟨v4, rfl, hv4, hb4⟩
        obtain ⟨k4', n4', A6, nd6, cd6, AL6, nl6, cl6, rfl⟩ := hv4.form
        have BT := Lib.hid (hb3.trans (hb4.mono hb3.size))
        have V4 := Lib.hid (And.intro hv4 hb3.size)
        clear hv4 hb4 hb3
        go_wp2_with (first
          | (at_builtin; refine wpList_append_grows _ rfl (.tmp 76) (.tmp 82) 40 rfl 42 i0 _ 4 64 Tryz.underlying40 HI.out.1 HI.out.2.1 HI.out.2.2.1 HI.out.2.2.2 rfl (by decide) (some ⟨g7, 0, none⟩) 5 5 cs rfl (fun e => (nomatch e)) HNW.out.1 (fun b hb j u hj => by injection hb with hb; subst hb; rw [addr_add]; exact (((BT.out.alloc BT.out.size _).cell (p := ⟨g7, 0 + j, none⟩) H7.out.1).trans (HNW.out.2.1 j u hj))) ⟨w4.heap.size, 0, none⟩ 1 1 [.int .i64 k4', .int .u64 (n4' : Int), .slice A6 nd6 cd6, .slice AL6 nl6 cl6] rfl rfl (cells4_at (t := 42) w4 _ _ _ _) (one4 k4' n4' A6 nd6 cd6 AL6 nl6 cl6) (by decide) (by decide) (by decide) ?_; intro v6 w6 ho6 hg6; have O6 := Lib.hid (And.intro ho6 hg6); clear ho6 hg6)
          | fail)
        obtain ⟨g6, cap6, rfl, hg6l, hcap6⟩ : ∃ g6 cap6, v6 = .slice (some ⟨g6, 0, none⟩) 6 cap6 ∧ g6 < w6.heap.size ∧ 6 ≤ cap6 := by
          rcases O6.out.1.2 with ⟨-, h⟩ | ⟨g6, cap6, cur, e, hb, hg, hn, -⟩
          · omega
          · exact ⟨g6, cap6, e, (Array.getElem?_eq_some_iff.1 hg).1, hn⟩
        have HF6 : Hid (6 = (itsB ⟨m0, m1, m2, (m3 : Int), d4⟩).length ∧ 6 ≤ cap6 ∧ g6 < w6.heap.size ∧ RdIs w6 w6.heap.size g6 0 (itsB ⟨m0, m1, m2, (m3 : Int), d4⟩) ∧ Below w2.heap.size w2 w6) := by
          have B6 : Below w2.heap.size w2 w6 := (BT.out.alloc BT.out.size _).grown O6.out.2 (by have := BT.out.size; simp; omega) (fun k e => (nomatch e))
          have hgs : (w4.alloc (.cells #[.int .i64 k4', .int .u64 (n4' : Int), .slice A6 nd6 cd6, .slice AL6 nl6 cl6] 42)).grownBy w6 (some g7) := ⟨O6.out.2.os, O6.out.2.tape, O6.out.2.output, O6.out.2.size, fun k hk _ => O6.out.2.block k hk (by simp)⟩
          have R6 := sealed_row HNW.out.2.2.2 B6 O6.out.1 HNW.out.1 rfl V4.out.1 hgs (Nat.lt_of_lt_of_le H7.out.1 V4.out.2)
          have e : itsB ⟨m0, m1, m2, (m3 : Int), d4⟩ = partsB ⟨m0, m1, m2, (m3 : Int), d4⟩ ++ [.mk 2 0 (List.replicate KK2 0) []] := by
            unfold itsB nulls
            rw [if_neg HKK.out.2.2, ← HKK.out.1]
          rw [e]
          exact ⟨rfl, hcap6, hg6l, R6, B6⟩
        clear O6 V4 BT hg6l hcap6
        go_meet
        case rel => exact ⟨g6, 6, cap6, rfl, HF6⟩
    case rest =>
      obtain ⟨gi, M, capM, rfl, H9⟩ := hcut
      have hx9 := (H9.out.2.2.2.2.block gx (by have := lt_of_some HX.out.1; have := H7.out.2.2.size; omega)).trans ((H7.out.2.2.block gx (lt_of_some HX.out.1)).trans HX.out.1)
      have HX9 := Lib.hid hx9
      have bw := (HX.out.2.2.2.2.1.trans (H7.out.2.2.mono HX.out.2.2.2.2.1.size))
      have BW := Lib.hid (bw.trans (H9.out.2.2.2.2.mono bw.size))
      have KX : Hid (∀ W, Below wc.heap.size wc W → (W.cell? ⟨gx, 0, none⟩ = some (.int .u64 (m0 : Int)) ∧ W.cell? ⟨gx, 1, none⟩ = some (.int .u64 (m1 : Int)) ∧ W.cell? ⟨gx, 2, none⟩ = some (.int .u64 (m2 : Int)) ∧ W.cell? ⟨gx, 3, none⟩ = some (.int .i64 (m3 : Int)) ∧ W.cell? ⟨gx, 4, none⟩ = some (.slice A5 d4.length c5)) ∧ W.cell? ⟨u1.heap.size, 3, none⟩ = some (.slice (some ⟨b, o, none⟩) NL cl)) := fun W hW =>
        ⟨(row5 ((hW.block gx (lt_of_some HX9.out)).trans HX9.out)).1, KT.out _ (BW.out.trans (hW.mono BW.out.size))⟩
      have CK := Lib.hid (fun W => rcheckB_any m0 m1 m2 (m3 : Int) A5 d4.length c5 d4 W rfl)
      unfold blkV at CK
      clear hx9 bw
      by_cases hok : blkOk ⟨m0, m1, m2, (m3 : Int), d4⟩ = true
      case neg =>
        have hok0 : blkOk ⟨m0, m1, m2, (m3 : Int), d4⟩ = false := by simpa using hok
        have HD : Hid (decB l = (.zero, 0, 50)) := decB_bad (l := l) (by rw [HDD.out]) (by rw [HDD.out, HTK.out]; exact hok0)
        rw [hok0] at CK
        clear hok hok0
        obtain ⟨⟨y0, y1, y2, y3, y4⟩, -⟩ := KX.out _ (Below.refl _ _)
        go_wp2_with fail
        refine (CK.out _).mono ?_
        rintro e w10 ⟨rfl, hb10⟩
        have bw10 := BW.out.trans (hb10.mono BW.out.size)
        have B10 := Lib.hid (B1.out.trans (bw10.mono B1.out.size))
        have Y10 := Y1.out.trans (bw10.mono (by have h := Y1.out.size; rw [HS0.out] at h; exact h))
        obtain ⟨⟨z0, z1, z2, z3, z4⟩, f0, f1, f2, f3, f4⟩ := HZ.out _ Y10
        clear y0 y1 y2 y3 y4 hb10 bw10 Y10
        go_wp2_with fail
        exact bodyPost_ret (v := .tuple #[blkV 0 0 0 0 none 0 0, .int .i64 0, .int .i64 50]) (by simp [results, Tryz.results5, go_sem, z0, z1, z2, z3, z4, blkV]) rfl (HNO.out _ _ 50 HD.out (by first | exact B10.out | exact below_put5 B10.out (Nat.le_refl _)) rfl)
      case pos =>
        rw [hok] at CK
        have HOK := Lib.hid hok
        clear hok
        obtain ⟨⟨y0, y1, y2, y3, y4⟩, -⟩ := KX.out _ (Below.refl _ _)
        by_cases hMN : M = NL
        case neg =>
          have HD := Lib.hid (decB_no HDD.out (notDec (fun _ _ _ h4 _ => by rw [HTK.out] at h4; exact hMN (H9.out.1.trans (h4.symm.trans HNL.out.symm)))))
          have tne : ((M : Int) != (NL : Int)) = true := by simp; omega
          clear hMN
          go_wp2_with fail
          refine (CK.out _).mono ?_
          rintro e w10 ⟨rfl, hb10⟩
          have y5 := (KX.out _ hb10).2
          have bw10 := BW.out.trans (hb10.mono BW.out.size)
          have B10 := Lib.hid (B1.out.trans (bw10.mono B1.out.size))
          have Y10 := Y1.out.trans (bw10.mono (by have h := Y1.out.size; rw [HS0.out] at h; exact h))
          obtain ⟨⟨z0, z1, z2, z3, z4⟩, f0, f1, f2, f3, f4⟩ := HZ.out _ Y10
          clear y0 y1 y2 y3 y4 hb10 bw10 Y10
          go_wp2_with fail
          exact bodyPost_ret (v := .tuple #[blkV 0 0 0 0 none 0 0, .int .i64 0, .int .i64 50]) (by simp [results, Tryz.results5, go_sem, z0, z1, z2, z3, z4, blkV]) rfl (HNO.out _ _ 50 HD.out (by first | exact B10.out | exact below_put5 B10.out (Nat.le_refl _)) rfl)
        obtain rfl : M = NL := hMN
        have tne : ((M : Int) != (M : Int)) = false := by simp
        have h32 := H3.out
        go_wp2_with fail
        refine (CK.out _).mono ?_
        rintro e w10 ⟨rfl, hb10⟩
        have y5 := (KX.out _ hb10).2
        have B10 := Lib.hid hb10
        clear y0 y1 y2 y3 y4 hb10
        go_wp2_with fail
        go_loopw [10, 11] (fun i lk wr => ∃ j : Nat, j ≤ M ∧ i = .int .i64 j ∧ Hid (Below wc.heap.size wc wr ∧ ∀ k, k < j → okAt ⟨m0, m1, m2, (m3 : Int), d4⟩ LL k)) (fun i _ _ => M - (intOf i).toNat)
        case atStart => exact ⟨0, Nat.zero_le _, rfl, B10.out, fun k hk => absurd hk (Nat.not_lt_zero _)⟩
        case round =>
          obtain ⟨j, hj, rfl, HJ⟩ := hrel
          clear y5
          by_cases hlt : j < M
          case neg =>
            obtain rfl : j = M := by omega
            have tn : ¬ (j : Int) < (j : Int) := by omega
            clear hlt hj tne
            obtain ⟨⟨y0, y1, y2, y3, y4⟩, -⟩ := KX.out _ HJ.out.1
            have hd4 : Rd wr wr.heap.size A5 d4.length d4 := by
              have h1 := HX.out.2.2.2.1
              have h2 := (h1.below H7.out.2.2).below (H9.out.2.2.2.2.mono H7.out.2.2.size)
              have h3 := h2.below (HJ.out.1.mono (Nat.le_trans H7.out.2.2.size H9.out.2.2.2.2.size))
              exact h3.more (Nat.le_trans (Nat.le_trans H7.out.2.2.size H9.out.2.2.2.2.size) HJ.out.1.size)
            have CE := Lib.hid (rencodeB_any ⟨m0, m1, m2, (m3 : Int), d4⟩ A5 d4.length c5 wr.heap.size wr HTB.out (Nat.le_refl _) hd4)
            rw [HOK.out] at CE
            have HD4 := Lib.hid hd4
            clear hd4
            unfold blkV at CE
            go_wp2_with fail
            refine CE.out.mono ?_
            rintro e w12 ⟨hb12, A', n', c', rfl, hnc, hr12⟩
            rw [if_pos trivial] at hr12
            have b12 := HJ.out.1.trans (hb12.mono HJ.out.1.size)
            have bw12 := BW.out.trans (b12.mono BW.out.size)
            have B12 := Lib.hid (B1.out.trans (bw12.mono B1.out.size))
            have Y12 := Lib.hid (Y1.out.trans (bw12.mono (by have h := Y1.out.size; rw [HS0.out] at h; exact h)))
            obtain ⟨⟨x0, x1, x2, x3, x4⟩, -⟩ := KX.out _ b12
            have R12 := Lib.hid hr12
            have HB12 := Lib.hid hb12
            have hln : l.length = n := HRD.out.2.1.1
            have hRl : Rd w12 B A n l := HRD.out.2.1.below (B12.out.mono HRD.out.1)
            obtain ⟨A2, c2, cut2, -, -, hr2⟩ := cut_h (P := Tryz.prog) 22 5 Tryz.underlying22 size_u8 c hRl (WL : Int) WL rfl (by have := HLL.out.1; omega) HRD.out.2.2.2
            have R2 := Lib.hid hr2
            obtain ⟨s, hs, hx⟩ := itmB_of (y := ⟨m0, m1, m2, (m3 : Int), d4⟩) HRT.out (by rw [← HNL.out, H9.out.1]) (fun k hk => HJ.out.2 k (by rw [HNL.out]; exact hk))
            obtain ⟨hy1, hy2⟩ := decB_yes (s := s) HDD.out (by rw [HTK.out]; exact HOK.out) (by rw [HTK.out]; exact hs) (by rw [HTK.out]; exact hx)
            rw [HTK.out, Int.toNat_natCast] at hy1
            rw [HTK.out] at hy2
            clear y0 y1 y2 y3 y4 hb12 b12 bw12 hr12 hRl hr2 hln CE hx
            by_cases hse : s = sumB ⟨m0, m1, m2, (m3 : Int), d4⟩
            · have heq : (blkW ⟨m0, m1, m2, (m3 : Int), d4⟩ == l.take WL) = true := by
                rw [hy1, hse]; simp [blkW]
              rw [if_pos hse] at hy2
              have HY := Lib.hid hy2
              clear hy1 hy2 hse hs
              obtain ⟨⟨z0, z1, z2, z3, z4⟩, f0, f1, f2, f3, f4⟩ := HZ.out _ Y12.out
              go_wp2_with fail
              refine (same_any A' A2 n' c' WL c2 w12.heap.size B (blkW ⟨m0, m1, m2, (m3 : Int), d4⟩) (l.take WL) w12 R12.out R2.out).mono ?_
              rintro e w13 ⟨rfl, rfl⟩
              rw [heq]
              clear heq cut2
              go_wp2_with fail
              have RE : Rd w12 wr.heap.size A5 d4.length d4 := HD4.out.below HB12.out
              refine bodyPost_ret (v := .tuple #[blkV m0 m1 m2 (m3 : Int) A5 d4.length c5, .int .i64 (WL : Int), .int .i64 0]) (by simp [results, Tryz.results5, go_sem, z0, z1, z2, z3, z4, blkV]) rfl (show DecB l w _ _ from ⟨below_put5 B12.out (Nat.le_refl _), ⟨m0, m1, m2, (m3 : Int), d4⟩, A5, d4.length, c5, (WL : Int), 0, rfl, HY.out, HTB.out, ⟨HX.out.2.1, by have h1 := R4.out.1.2; have h2 := R4.out.2.1; omega⟩, ?_⟩)
              exact Rd.put5 RE (by have := HB12.out.size; simp [World.setCell]; omega) (RE.off5 (HZB.out _ Y12.out))
            · have heq : (blkW ⟨m0, m1, m2, (m3 : Int), d4⟩ == l.take WL) = false := by
                rw [hy1, beq_eq_false_iff_ne]
                intro h
                unfold blkW at h
                exact hse (List.append_cancel_left h).symm
              rw [if_neg hse] at hy2
              have HD := Lib.hid hy2
              clear hy1 hy2 hse hs
              obtain ⟨⟨z0, z1, z2, z3, z4⟩, f0, f1, f2, f3, f4⟩ := HZ.out _ Y12.out
              go_wp2_with fail
              refine (same_any A' A2 n' c' WL c2 w12.heap.size B (blkW ⟨m0, m1, m2, (m3 : Int), d4⟩) (l.take WL) w12 R12.out R2.out).mono ?_
              rintro e w13 ⟨rfl, rfl⟩
              rw [heq]
              clear heq cut2 x0 x1 x2 x3 x4
              go_wp2_with fail
              exact bodyPost_ret (v := .tuple #[blkV 0 0 0 0 none 0 0, .int .i64 0, .int .i64 51]) (by simp [results, Tryz.results5, go_sem, z0, z1, z2, z3, z4, blkV]) rfl (HNO.out _ _ 51 HD.out (by first | exact B12.out | exact below_put5 B12.out (Nat.le_refl _)) rfl)
          have tn : (j : Int) < (M : Int) := by omega
          have j0 : (0 : Int) ≤ (j : Int) := by omega
          have hjL : j < LL.length := by rw [← HNL.out]; exact hlt
          obtain ⟨x0, x1, x2, x3, p0, p1, p2, p3, px⟩ := HRW.out.get j hjL
          have bu : Below W1.heap.size W1 wr := BW.out.trans (HJ.out.1.mono BW.out.size)
          have BU := Lib.hid bu
          have r0 := KK.out wr bu _ _ p0
          have r1 := KK.out wr bu _ _ p1
          have r2 := KK.out wr bu _ _ p2
          have r3 := KK.out wr bu _ _ p3
          have PX := Lib.hid px
          obtain ⟨⟨-, -, -, y3, -⟩, y5⟩ := KX.out _ HJ.out.1
          obtain ⟨z, hz⟩ : ∃ z, z = LL[j]'hjL := ⟨_, rfl⟩
          have HZJ : Hid (LL[j]? = some z) := by show _ = _; rw [hz]; exact List.getElem?_eq_getElem hjL
          rw [← hz] at px PX
          obtain ⟨kz, nz, dz, lz⟩ := z
          obtain ⟨Az, ndz, cdz, ALz, clz, hv, -, -, -, hrd, -, -⟩ := px.open
          injection hv with hv
          simp only [Array.mk.injEq, List.cons.injEq, and_true] at hv
          obtain ⟨rfl, rfl, rfl, rfl⟩ := hv
          have HDZ : Hid (dz.length = ndz) := hrd.1
          have HLT := Lib.hid hlt
          have wk2 : wrap64 (2 * (m3 : Int)) = 2 * (m3 : Int) := by unfold wrap64; omega
          have wk3 : IntKind.i64.wrap (2 * (m3 : Int)) = 2 * (m3 : Int) := by rw [IntKind.wrap_i64]; omega
          have HSN : Hid (sumN (m3 : Int) = 2 * m3) := by
            show _ = _
            have : m3 = 0 ∨ m3 = 1 ∨ m3 = 2 := by omega
            rcases this with rfl | rfl | rfl <;> rfl
          obtain ⟨LIKE, hLIKE⟩ : ∃ LIKE : Bool, LIKE = (decide (j = 5) && (decide (kz = 2) && decide (ndz = 2 * m3))) := ⟨_, rfl⟩
          have HLK := Lib.hid hLIKE
          clear p0 p1 p2 p3 px hz hrd bu hjL hLIKE
          go_upto_region 15 with fail
          go_cut [11] (fun v wx => v = .bool LIKE ∧ Hid (Below wr.heap.size wr wx))
          case first =>
            by_cases h5 : j = 5
            · have e5 : ((j : Int) == 5) = true := by simp [h5]
              by_cases hk2 : kz = 2
              · have ek : (kz == 2) = true := by simp [hk2]
                by_cases hn2 : ndz = 2 * m3
                · have en : ((ndz : Int) == 2 * (m3 : Int)) = true := by simp; omega
                  have HL2 : Hid (LIKE = true) := by show _ = _; rw [HLK.out]; simp [h5, hk2, hn2]
                  clear h5 hk2 hn2
                  go_wp2_with fail
                  go_quiet (fail)
                  have HQ : Hid (Below wr.heap.size wr (wr.drewN nq)) := below_qN _ wr nq
                  generalize wr.drewN nq = wq at *
                  go_wp2_with fail
                  go_meet
                  case rel => exact ⟨by rw [HL2.out], HQ⟩
                · have en : ((ndz : Int) == 2 * (m3 : Int)) = false := by simp; omega
                  have HL2 : Hid (LIKE = false) := by show _ = _; rw [HLK.out]; simp [hn2]
                  clear h5 hk2 hn2
                  go_wp2_with fail
                  go_quiet (fail)
                  have HQ : Hid (Below wr.heap.size wr (wr.drewN nq)) := below_qN _ wr nq
                  generalize wr.drewN nq = wq at *
                  go_wp2_with fail
                  go_meet
                  case rel => exact ⟨by rw [HL2.out], HQ⟩
              · have ek : (kz == 2) = false := by simpa using hk2
                have HL2 : Hid (LIKE = false) := by show _ = _; rw [HLK.out]; simp [hk2]
                clear h5 hk2
                go_wp2_with fail
                go_quiet (fail)
                have HQ : Hid (Below wr.heap.size wr (wr.drewN nq)) := below_qN _ wr nq
                generalize wr.drewN nq = wq at *
                go_wp2_with fail
                go_meet
                case rel => exact ⟨by rw [HL2.out], HQ⟩
            · have e5 : ((j : Int) == 5) = false := by simp; omega
              have HL2 : Hid (LIKE = false) := by show _ = _; rw [HLK.out]; simp [h5]
              clear h5
              go_wp2_with fail
              go_quiet (fail)
              have HQ : Hid (Below wr.heap.size wr (wr.drewN nq)) := below_qN _ wr nq
              generalize wr.drewN nq = wq at *
              go_wp2_with fail
              go_meet
              case rel => exact ⟨by rw [HL2.out], HQ⟩
          case rest =>
            obtain ⟨rfl, HQ⟩ := hcut
            have BJ := Lib.hid (HJ.out.1.trans (HQ.out.mono HJ.out.1.size))
            cases LIKE with
            | true =>
              have HOKJ : Hid (okAt ⟨m0, m1, m2, (m3 : Int), d4⟩ LL j) := by
                have h := HLK.out.symm
                simp only [Bool.and_eq_true, decide_eq_true_eq] at h
                obtain ⟨h5, h6, h7⟩ := h
                exact .inr ⟨h5, Itm.mk kz nz dz lz, by rw [← h5]; exact HZJ.out, h6, by show dz.length = _; rw [HDZ.out, HSN.out]; exact h7⟩
              go_wp2_with fail
              go_quiet (fail)
              have HQ2 : Hid (Below wc.heap.size wc (wc.drewN nq)) := below_qN _ wc nq
              generalize wc.drewN nq = wq at *
              have tlt := HLT.out
              have tm6 : M ≤ 6 := by rw [H9.out.1, itsB_len]; split <;> omega
              go_wp2_with fail
              go_roundw
              case rel => exact ⟨j + 1, by have := HLT.out; omega, by go_num, BJ.out.trans (HQ2.out.mono BJ.out.size), fun k hk => by
                rcases Nat.lt_or_ge k j with h | h
                · exact HJ.out.2 k h
                · obtain rfl : k = j := by omega
                  exact HOKJ.out⟩
              case measure => simp [intOf]; have := HLT.out; omega
            | false =>
              have hji : j < (itsB ⟨m0, m1, m2, (m3 : Int), d4⟩).length := by rw [← H9.out.1]; exact HLT.out
              obtain ⟨c0, c1, c2, c3, g0, g1, g2, g3, gx1⟩ := H9.out.2.2.2.1.get j hji
              rw [Nat.zero_add] at g0 g1 g2 g3
              have s0 := (BJ.out.cell (p := ⟨gi, j * 4, none⟩) H9.out.2.2.1).trans g0
              have s1 := (BJ.out.cell (p := ⟨gi, j * 4 + 1, none⟩) H9.out.2.2.1).trans g1
              have s2 := (BJ.out.cell (p := ⟨gi, j * 4 + 2, none⟩) H9.out.2.2.1).trans g2
              have s3 := (BJ.out.cell (p := ⟨gi, j * 4 + 3, none⟩) H9.out.2.2.1).trans g3
              have BI := Lib.hid (BW.out.trans (BJ.out.mono BW.out.size))
              have t0 := (HQ.out.cell (p := ⟨b, o + j * 4, none⟩) (World.block_lt_of_cell? wr ⟨b, o + j * 4, none⟩ r0)).trans r0
              have t1 := (HQ.out.cell (p := ⟨b, o + j * 4 + 1, none⟩) (World.block_lt_of_cell? wr ⟨b, o + j * 4, none⟩ r0)).trans r1
              have t2 := (HQ.out.cell (p := ⟨b, o + j * 4 + 2, none⟩) (World.block_lt_of_cell? wr ⟨b, o + j * 4, none⟩ r0)).trans r2
              have t3 := (HQ.out.cell (p := ⟨b, o + j * 4 + 3, none⟩) (World.block_lt_of_cell? wr ⟨b, o + j * 4, none⟩ r0)).trans r3
              have t4 := (KX.out _ BJ.out).2
              obtain ⟨v0, hv0⟩ : ∃ v0, v0 = (itsB ⟨m0, m1, m2, (m3 : Int), d4⟩)[j]'hji := ⟨_, rfl⟩
              have HV0 : Hid ((itsB ⟨m0, m1, m2, (m3 : Int), d4⟩)[j]? = some v0) := by show _ = _; rw [hv0]; exact List.getElem?_eq_getElem hji
              rw [← hv0] at gx1
              have GX := Lib.hid gx1
              have HNE : Hid (v0 ≠ Itm.mk kz nz dz lz → decB l = (.zero, 0, 50)) := fun hne => decB_no HDD.out (notDec (fun _ _ _ _ h => by
                rw [HTK.out] at h
                rcases h j (by have h1 := HNL.out; have h2 := HLT.out; omega) with h | ⟨h5, z', h6, h7, h8⟩
                · rw [HV0.out, HZJ.out] at h
                  exact hne (Option.some.inj h)
                · subst h5
                  rw [HZJ.out] at h6
                  obtain rfl := Option.some.inj h6
                  have h9 := HLK.out
                  rw [HSN.out] at h8
                  have h10 : dz.length = 2 * m3 := h8
                  have h11 : kz = 2 := h7
                  rw [HDZ.out] at h10
                  simp [h10, h11] at h9))
              clear g0 g1 g2 g3 gx1 hv0 hji r0 r1 r2 r3 y3 y5
              go_wp2_with fail
              refine wp_region_held_drew (S := fun W => W.cell? ⟨gi, j * 4, none⟩ = some c0 ∧ W.cell? ⟨gi, j * 4 + 1, none⟩ = some c1 ∧ W.cell? ⟨gi, j * 4 + 2, none⟩ = some c2 ∧ W.cell? ⟨gi, j * 4 + 3, none⟩ = some c3 ∧ W.cell? ⟨b, o + j * 4, none⟩ = some (.int .i64 kz) ∧ W.cell? ⟨b, o + j * 4 + 1, none⟩ = some (.int .u64 (nz : Int)) ∧ W.cell? ⟨b, o + j * 4 + 2, none⟩ = some (.slice Az ndz cdz) ∧ W.cell? ⟨b, o + j * 4 + 3, none⟩ = some (.slice ALz lz.length clz) ∧ W.cell? ⟨u1.heap.size, 3, none⟩ = some (.slice (some ⟨b, o, none⟩) M cl)) (by kernel_rfl) ⟨s0, s1, s2, s3, t0, t1, t2, t3, t4⟩ (fun (hHeld : wc.drew.cell? ⟨gi, j * 4, none⟩ = some c0 ∧ wc.drew.cell? ⟨gi, j * 4 + 1, none⟩ = some c1 ∧ wc.drew.cell? ⟨gi, j * 4 + 2, none⟩ = some c2 ∧ wc.drew.cell? ⟨gi, j * 4 + 3, none⟩ = some c3 ∧ wc.drew.cell? ⟨b, o + j * 4, none⟩ = some (.int .i64 kz) ∧ wc.drew.cell? ⟨b, o + j * 4 + 1, none⟩ = some (.int .u64 (nz : Int)) ∧ wc.drew.cell? ⟨b, o + j * 4 + 2, none⟩ = some (.slice Az ndz cdz) ∧ wc.drew.cell? ⟨b, o + j * 4 + 3, none⟩ = some (.slice ALz lz.length clz) ∧ wc.drew.cell? ⟨u1.heap.size, 3, none⟩ = some (.slice (some ⟨b, o, none⟩) M cl)) => ?_)
              clear s0 s1 s2 s3 t0 t1 t2 t3 t4
              refine takeR (i := 0) (v := ?v0_1001) rfl (by kernel_rfl) (by kernel_rfl) (by kernel_rfl) (fun _ _ _ h => h) (by rfl) ?hy0_1001 (by assumption) ?rest0_1001
              case hy0_1001 => (intro W hSw; obtain ⟨q0, q1, q2, q3, q4, q5, q6, q7, q8⟩ := hSw; go_simp; try with_reducible rfl)
              try simp only [Act.put]
              try simp only [List.setIfInBounds_toArray]
              try simp only [List.set_cons_succ]
              try simp only [List.set_cons_zero]
              refine takeR (i := 1) (v := ?v1_1002) rfl (by kernel_rfl) (by kernel_rfl) (by kernel_rfl) (fun _ _ _ h => h) (by rfl) ?hy1_1002 (by assumption) ?rest1_1002
              case hy1_1002 => (intro W hSw; obtain ⟨q0, q1, q2, q3, q4, q5, q6, q7, q8⟩ := hSw; go_simp; try with_reducible rfl)
              try simp only [Act.put]
              try simp only [List.setIfInBounds_toArray]
              try simp only [List.set_cons_succ]
              try simp only [List.set_cons_zero]
              refine takeR (i := 2) (v := ?v2_1003) rfl (by kernel_rfl) (by kernel_rfl) (by kernel_rfl) (fun _ _ _ h => h) (by rfl) ?hy2_1003 (by assumption) ?rest2_1003
              case hy2_1003 => (intro W hSw; obtain ⟨q0, q1, q2, q3, q4, q5, q6, q7, q8⟩ := hSw; go_simp; try with_reducible rfl)
              try simp only [Act.put]
              try simp only [List.setIfInBounds_toArray]
              try simp only [List.set_cons_succ]
              try simp only [List.set_cons_zero]
              refine takeR (i := 3) (v := ?v3_1004) rfl (by kernel_rfl) (by kernel_rfl) (by kernel_rfl) (fun _ _ _ h => h) (by rfl) ?hy3_1004 (by assumption) ?rest3_1004
              case hy3_1004 => (intro W hSw; obtain ⟨q0, q1, q2, q3, q4, q5, q6, q7, q8⟩ := hSw; go_simp; try with_reducible rfl)
              try simp only [Act.put]
              try simp only [List.setIfInBounds_toArray]
              try simp only [List.set_cons_succ]
              try simp only [List.set_cons_zero]
              refine takeR (i := 4) (v := ?v4_1005) rfl (by kernel_rfl) (by kernel_rfl) (by kernel_rfl) (fun _ _ _ h => h) (by rfl) ?hy4_1005 (by assumption) ?rest4_1005
              case hy4_1005 => (intro W hSw; obtain ⟨q0, q1, q2, q3, q4, q5, q6, q7, q8⟩ := hSw; go_simp; try with_reducible rfl)
              try simp only [Act.put]
              try simp only [List.setIfInBounds_toArray]
              try simp only [List.set_cons_succ]
              try simp only [List.set_cons_zero]
              refine takeR (i := 5) (v := ?v5_1006) rfl (by kernel_rfl) (by kernel_rfl) (by kernel_rfl) (fun _ _ _ h => h) (by rfl) ?hy5_1006 (by assumption) ?rest5_1006
              case hy5_1006 => (intro W hSw; obtain ⟨q0, q1, q2, q3, q4, q5, q6, q7, q8⟩ := hSw; go_simp; try with_reducible rfl)
              try simp only [Act.put]
              try simp only [List.setIfInBounds_toArray]
              try simp only [List.set_cons_succ]
              try simp only [List.set_cons_zero]
              refine takeR (i := 6) (v := ?v6_1007) rfl (by kernel_rfl) (by kernel_rfl) (by kernel_rfl) (fun _ _ _ h => h) (by rfl) ?hy6_1007 (by assumption) ?rest6_1007
              case hy6_1007 => (intro W hSw; obtain ⟨q0, q1, q2, q3, q4, q5, q6, q7, q8⟩ := hSw; go_simp; try with_reducible rfl)
              try simp only [Act.put]
              try simp only [List.setIfInBounds_toArray]
              try simp only [List.set_cons_succ]
              try simp only [List.set_cons_zero]
              refine takeR (i := 7) (v := ?v7_1008) rfl (by kernel_rfl) (by kernel_rfl) (by kernel_rfl) (fun _ _ _ h => h) (by rfl) ?hy7_1008 (by assumption) ?rest7_1008
              case hy7_1008 => (intro W hSw; obtain ⟨q0, q1, q2, q3, q4, q5, q6, q7, q8⟩ := hSw; go_simp; try with_reducible rfl)
              try simp only [Act.put]
              try simp only [List.setIfInBounds_toArray]
              try simp only [List.set_cons_succ]
              try simp only [List.set_cons_zero]
              refine takeR (i := 8) (v := ?v8_1009) rfl (by kernel_rfl) (by kernel_rfl) (by kernel_rfl) (fun _ _ _ h => h) (by rfl) ?hy8_1009 (by assumption) ?rest8_1009
              case hy8_1009 => (intro W hSw; obtain ⟨q0, q1, q2, q3, q4, q5, q6, q7, q8⟩ := hSw; go_simp; try with_reducible rfl)
              try simp only [Act.put]
              try simp only [List.setIfInBounds_toArray]
              try simp only [List.set_cons_succ]
              try simp only [List.set_cons_zero]
              refine takeR (i := 9) (v := ?v9_1010) rfl (by kernel_rfl) (by kernel_rfl) (by kernel_rfl) (fun _ _ _ h => h) (by rfl) ?hy9_1010 (by assumption) ?rest9_1010
              case hy9_1010 => (intro W hSw; obtain ⟨q0, q1, q2, q3, q4, q5, q6, q7, q8⟩ := hSw; go_simp; try with_reducible rfl)
              try simp only [Act.put]
              try simp only [List.setIfInBounds_toArray]
              try simp only [List.set_cons_succ]
              try simp only [List.set_cons_zero]
              refine takeR (i := 10) (v := ?v10_1011) rfl (by kernel_rfl) (by kernel_rfl) (by kernel_rfl) (fun _ _ _ h => h) (by rfl) ?hy10_1011 (by assumption) ?rest10_1011
              case hy10_1011 => (intro W hSw; obtain ⟨q0, q1, q2, q3, q4, q5, q6, q7, q8⟩ := hSw; go_simp; try with_reducible rfl)
              try simp only [Act.put]
              try simp only [List.setIfInBounds_toArray]
              try simp only [List.set_cons_succ]
              try simp only [List.set_cons_zero]
              refine takeR (i := 11) (v := ?v11_1012) rfl (by kernel_rfl) (by kernel_rfl) (by kernel_rfl) (fun _ _ _ h => h) (by rfl) ?hy11_1012 (by assumption) ?rest11_1012
              case hy11_1012 => (intro W hSw; obtain ⟨q0, q1, q2, q3, q4, q5, q6, q7, q8⟩ := hSw; go_simp; try with_reducible rfl)
              try simp only [Act.put]
              try simp only [List.setIfInBounds_toArray]
              try simp only [List.set_cons_succ]
              try simp only [List.set_cons_zero]
              refine wpAnyH_ready (rs := [12]) (by kernel_rfl) (by simp) ?_
              refine AllReadyH.cons rfl (fun K hK => ?_) AllReadyH.nil
              rw [if_pos (by rfl)]
              go_simp
              refine (rsameG_n (par (Itm.mk kz nz dz lz) + 1) v0 (.mk kz nz dz lz) _ _ wc.drew wc.drew.heap.size (Nat.lt_succ_self _) (Nat.le_refl _) (((GX.out.below BJ.out).more BJ.out.size).below Below.drew_) (((PX.out.below UW.out).more UW.out.size |>.below (BI.out)).more BI.out.size |>.below Below.drew_)).mono ?_
              rintro e w11 ⟨rr, rfl, hrr, hb11⟩
              have HRR := Lib.hid hrr
              have B11 : Hid (Below wc.heap.size wc w11) := Below.drew_.trans hb11
              have hh : w11.cell? ⟨gi, j * 4, none⟩ = some c0 ∧ w11.cell? ⟨gi, j * 4 + 1, none⟩ = some c1 ∧ w11.cell? ⟨gi, j * 4 + 2, none⟩ = some c2 ∧ w11.cell? ⟨gi, j * 4 + 3, none⟩ = some c3 ∧ w11.cell? ⟨b, o + j * 4, none⟩ = some (.int .i64 kz) ∧ w11.cell? ⟨b, o + j * 4 + 1, none⟩ = some (.int .u64 (nz : Int)) ∧ w11.cell? ⟨b, o + j * 4 + 2, none⟩ = some (.slice Az ndz cdz) ∧ w11.cell? ⟨b, o + j * 4 + 3, none⟩ = some (.slice ALz lz.length clz) ∧ w11.cell? ⟨u1.heap.size, 3, none⟩ = some (.slice (some ⟨b, o, none⟩) M cl) := by
                have k : ∀ (p : Addr) (u : Value), wc.drew.cell? p = some u → w11.cell? p = some u := fun p u hu => (hb11.cell (World.block_lt_of_cell? wc.drew p hu)).trans hu
                obtain ⟨q0, q1, q2, q3, q4, q5, q6, q7, q8⟩ := hHeld
                exact ⟨k _ _ q0, k _ _ q1, k _ _ q2, k _ _ q3, k _ _ q4, k _ _ q5, k _ _ q6, k _ _ q7, k _ _ q8⟩
              clear hrr hb11 hHeld
              refine hK.out _ _ hh (fun hHeld => ?_)
              try simp only [Act.put]
              try simp only [List.setIfInBounds_toArray]
              try simp only [List.set_cons_succ]
              try simp only [List.set_cons_zero]
              clear hK K hh
              refine takeR (i := 13) (v := ?v13_1013) rfl (by kernel_rfl) (by kernel_rfl) (by kernel_rfl) (fun _ _ _ h => h) (by rfl) ?hy13_1013 (by assumption) ?rest13_1013
              case hy13_1013 => (intro W hSw; go_simp; try with_reducible rfl)
              try simp only [Act.put]
              try simp only [List.setIfInBounds_toArray]
              try simp only [List.set_cons_succ]
              try simp only [List.set_cons_zero]
              refine takeR (i := 14) (v := ?v14_1014) rfl (by kernel_rfl) (by kernel_rfl) (by kernel_rfl) (fun _ _ _ h => h) (by rfl) ?hy14_1014 (by assumption) ?rest14_1014
              case hy14_1014 => (intro W hSw; go_simp; try with_reducible rfl)
              try simp only [Act.put]
              try simp only [List.setIfInBounds_toArray]
              try simp only [List.set_cons_succ]
              try simp only [List.set_cons_zero]
              clear hHeld
              refine wpAnyH_done (by kernel_rfl) ?_ _
              cases rr with
              | true =>
                have tlt := HLT.out
                have tm6 : M ≤ 6 := by rw [H9.out.1, itsB_len]; split <;> omega
                go_wp2_with fail
                go_roundw
                case rel => exact ⟨j + 1, by have := HLT.out; omega, by go_num, BJ.out.trans (B11.out.mono BJ.out.size), fun k hk => by
                  rcases Nat.lt_or_ge k j with h | h
                  · exact HJ.out.2 k h
                  · obtain rfl : k = j := by omega
                    exact .inl (by rw [HV0.out, HZJ.out, HRR.out.1 rfl])⟩
                case measure => simp [intOf]; have := HLT.out; omega
              | false =>
                have HD : Hid (decB l = (.zero, 0, 50)) := HNE.out (fun h => by have := HRR.out.2 h; cases this)
                have bw10 := BI.out.trans (B11.out.mono BI.out.size)
                have B20 := Lib.hid (B1.out.trans (bw10.mono B1.out.size))
                have Y10 := Y1.out.trans (bw10.mono (by have h := Y1.out.size; rw [HS0.out] at h; exact h))
                obtain ⟨⟨z0, z1, z2, z3, z4⟩, f0, f1, f2, f3, f4⟩ := HZ.out _ Y10
                clear bw10 Y10
                go_wp2_with fail
                exact bodyPost_ret (v := .tuple #[blkV 0 0 0 0 none 0 0, .int .i64 0, .int .i64 50]) (by simp [results, Tryz.results5, go_sem, z0, z1, z2, z3, z4, blkV]) rfl (HNO.out _ _ 50 HD.out (by first | exact B20.out | exact below_put5 B20.out (Nat.le_refl _)) rfl)
end Go.Proofs.YtbdjkihgcmebgaaGreatDoor
