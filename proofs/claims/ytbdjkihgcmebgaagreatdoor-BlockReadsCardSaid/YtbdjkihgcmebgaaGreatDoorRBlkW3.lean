/- What Sealed of layer 5's reference returns, of every items, with a sum. (Made by gen/BlkW3.py.) -/
import Derived.Test.YtbdjkihgcmebgaaGreatDoorRBlkW2
import Derived.Laws.MakeOwn
import Derived.Deep.RegionHeld3
namespace Go.Proofs.YtbdjkihgcmebgaaGreatDoor
open Go.RowKit

theorem takeSl {P : Program} {md : Region.Mode} {l : List Oper} {Q : Exit → Act → World → Prop} {S : World → Prop} {i : Nat} {oi : Oper} {v : Value} {fuel : Nat} {listed : Array Bool} {a : Act} {w : World} (hi : l[i]? = some oi)
    (hs : Region.noSelect l.toArray = true) (hf : Region.free md l.toArray listed i = true) (hr : (Region.ready md l.toArray listed).contains i = true)
    (hQ : ∀ c a w, Q (.panic c) (a.put oi.dst v) w → Q (.panic c) a w) (hw : Region.wanted oi (yielded l.toArray a.tmps) = true) (hy : ∀ w, S w → (execOp a.eval oi).run P w = .ok (.value v) w) (hS : S w)
    (h : wpAnyH P md l.toArray Q S fuel (listed.setIfInBounds i true) (a.put oi.dst v) w) : wpAnyH P md l.toArray Q S (fuel + 1) listed a w :=
  wpAnyH_take (oi := oi) (v := v) (by simpa using hi) hs hf hr hQ (Or.inl ⟨hw, hy⟩) hS h
/-- make of bytes, at a step. -/
theorem wp_makeB {P : Program} {o : Oper} {a : Act} {w : World} {K : Act → World → Prop} {Q : Exit → Act → World → Prop} (l c : Operand) (t : TypeId) (hop : o.op = Op.makeSlice t l c)
    (e : TypeId) (ht : P.underlying t = some (.slice e)) (hinfo : (P.info? e).map (fun i => (i.zero, i.size, i.bytes)) = some (some (.int .u8 0), 1, 1)) (M : Nat) (hl : a.eval l = .int .i64 (M : Int)) (hc : a.eval c = .int .i64 (M : Int)) (hC : M ≤ 140737488355328)
    (h : ∀ w' : World, Ob w' w.heap.size e (.slice (some ⟨w.heap.size, 0, none⟩) M M) (List.replicate M 0) → Below w.heap.size w w' → K (a.put o.dst (.slice (some ⟨w.heap.size, 0, none⟩) M M)) w') : Oper.wp P o a w K Q := by
  obtain ⟨i, hi, hzz⟩ := Option.map_eq_some_iff.1 hinfo
  simp only [Prod.mk.injEq] at hzz
  obtain ⟨hz, hs, hb⟩ := hzz
  have hr := run_make (P := P) w t e i (.int .u8 0) ht hi hz .i64 .i64 (M : Int) (M : Int) (by omega) (by omega) (by rw [hb]; omega) (by omega)
  simp only [Int.toNat_natCast, hs, Nat.mul_one] at hr
  unfold Oper.wp
  simp [execOp, hop, hl, hc, hr, Result.andThen]
  refine h _ ⟨?_, .inr ⟨w.heap.size, M, _, by simp, Nat.le_refl _, heap_alloc_new w _, by simp, by unfold maxLen; omega, by rw [size_madeCells, Nat.mul_one], ?_⟩⟩ ((Below.refl _ _).alloc (Nat.le_refl _) _)
  · simp
  · apply List.ext_getElem?
    intro j
    have hz1 : (Value.int IntKind.u8 0).cells = #[.int .u8 0] := rfl
    rw [hz1]
    by_cases hj : j < M
    · simp [hj, madeCells, Nat.mod_one, bv]
    · simp [hj]
      omega
/-- Items, and one more, in a row of one's own. -/
theorem sealed_rowM {w w3 w5 w6 : World} {g3 g6 cap6 base m : Nat} {e : TypeId} {ob : Obj} {cs : List Value} {items : List Itm} {x : Itm} {c0 c1 c2 c3 : Value}
    (n4 : ∀ (W' : World) (B' b' o' : Nat), (∀ j u, cs[j]? = some u → W'.cell? ⟨b', o' + j, none⟩ = some u) → (∀ p : Addr, p.block < w.heap.size → W'.cell? p = w.cell? p) → w.heap.size ≤ B' → RdIs W' B' b' o' items)
    (hb : Below w.heap.size w w6) (ho : w6.ownsRow base e 4 (.slice (some ⟨g6, 0, none⟩) (m + 1) cap6) (m + 1) (cs ++ [c0, c1, c2, c3])) (hcs : cs.length = m * 4) (hi : items.length = m)
    (hv : RdI (mask (lows w3.heap.size) w5) w5.heap.size (.agg #[c0, c1, c2, c3]) x) (hg : (w5.alloc ob).grownBy w6 (some g3)) (hg3 : g3 < w3.heap.size) :
    RdIs w6 w6.heap.size g6 0 (items ++ [x]) := by
  have hs5 : (w5.alloc ob).heap.size = w5.heap.size + 1 := by simp
  have hz := hg.size
  have cell : ∀ j u, (cs ++ [c0, c1, c2, c3])[j]? = some u → w6.cell? ⟨g6, j, none⟩ = some u := fun j u hj => by
    have hjl : j < (m + 1) * 4 := by
      rcases Nat.lt_or_ge j ((m + 1) * 4) with h | h
      · exact h
      · rw [List.getElem?_eq_none (by simp [hcs]; omega)] at hj; cases hj
    rw [World.ownsRow.cellAt ho j hjl]
    exact hj
  refine RdIs.app (n4 w6 _ g6 0 (fun j u hj => ?_) (fun p hp => hb.cell hp) hb.size) ?_
  · rw [Nat.zero_add]
    refine cell j u ?_
    rw [List.getElem?_append_left (by rcases Nat.lt_or_ge j cs.length with h | h; exact h; rw [List.getElem?_eq_none h] at hj; cases hj)]
    exact hj
  · rw [RdIs, RdIs, hi, Nat.zero_add]
    have hx : RdI w6 w6.heap.size (.agg #[c0, c1, c2, c3]) x := hv.sub (by omega) (fun p u _ hc => by
      have h1 := lows_f.1 (mask_out hc)
      have h2 := mask_sub hc
      have hlt := World.block_lt_of_cell? w5 p h2
      rw [World.cell?_of_block (hg.block p.block (by omega) (fun e => by injection e with e; omega)), World.cell?_alloc_lt _ _ _ hlt]
      exact h2)
    have at_ : ∀ i, i < 4 → (cs ++ [c0, c1, c2, c3])[m * 4 + i]? = [c0, c1, c2, c3][i]? := fun i hi => by
      rw [List.getElem?_append_right (by rw [hcs]; omega), hcs, Nat.add_sub_cancel_left]
    exact ⟨⟨c0, c1, c2, c3, cell _ _ (at_ 0 (by decide)), cell _ _ (at_ 1 (by decide)), cell _ _ (at_ 2 (by decide)), cell _ _ (at_ 3 (by decide)), hx⟩, trivial⟩

theorem Rd.grownS {w w' : World} {B n : Nat} {A : Option Addr} {l : List UInt8} {row : Option Nat} (h : Rd w B A n l) (hg : w.grownBy w' row) (hB : B ≤ w.heap.size) (hne : ∀ b o, A = some ⟨b, o, none⟩ → row ≠ some b) : Rd w' B A n l :=
  ⟨h.1, fun hn => by
    obtain ⟨b, o, e, hb, hc⟩ := h.2 hn
    refine ⟨b, o, e, hb, fun i hi => ?_⟩
    rw [← hc i hi]
    simp only [World.cell?]
    rw [hg.block b (by omega) (fun h => hne b o e h.symm)]⟩

set_option maxRecDepth 100000 in
set_option maxHeartbeats 16000000 in
theorem rsealedM_any (g m cap : Nat) (its : List Itm) (k : Int) (N : Nat) (w : World) (hk : (k = 1 ∧ N = 2) ∨ (k = 2 ∧ N = 4)) (hg : g < w.heap.size) (h : RdIs w w.heap.size g 0 its) (hm : its.length = m) (h0 : 0 < m) (hmx : m ≤ 1000) (_hcap : m ≤ cap)
    (hF : Fits (.mk 4 0 [] (its ++ [.mk 2 0 (List.replicate N 0) []]))) (hp : par (.mk 4 0 [] (its ++ [.mk 2 0 (List.replicate N 0) []])) ≤ 1000000) (hh : hgt (.mk 4 0 [] (its ++ [.mk 2 0 (List.replicate N 0) []])) ≤ 1001)
    (hlen : (wri (.mk 4 0 [] (its ++ [.mk 2 0 (List.replicate N 0) []]))).length ≤ 1000000) (hN : N ≤ (wri (.mk 4 0 [] (its ++ [.mk 2 0 (List.replicate N 0) []]))).length) :
    Calls Tryz.prog 30 #[.slice (some ⟨g, 0, none⟩) m cap, .int .i64 k] w (Gives ((wri (.mk 4 0 [] (its ++ [.mk 2 0 (List.replicate N 0) []]))).take ((wri (.mk 4 0 [] (its ++ [.mk 2 0 (List.replicate N 0) []]))).length - N) ++ crcBytes k (wri (.mk 4 0 [] (its ++ [.mk 2 0 (List.replicate N 0) []])))) w) := by
  obtain ⟨i0, hi0, hz0, hz1, hz2'⟩ := info_parts info_item
  have HI := Lib.hid hi0
  have HZ0 := Lib.hid hz0
  have HZ1 := Lib.hid hz1
  have HZ2 := Lib.hid hz2'
  obtain ⟨cs, n1, n2, n3, n4⟩ := h.news
  rw [hm] at n1
  have hkz : (k == 0) = false := by rcases hk with ⟨rfl, _⟩ | ⟨rfl, _⟩ <;> rfl
  have hkN : wrap64 (2 * k) = (N : Int) := by rcases hk with ⟨rfl, rfl⟩ | ⟨rfl, rfl⟩ <;> (unfold wrap64; omega)
  have HN4 : Hid (N ≤ 4 ∧ 0 < N) := by rcases hk with ⟨rfl, rfl⟩ | ⟨rfl, rfl⟩ <;> exact ⟨by decide, by decide⟩
  have N1 : Hid (cs.length = m * 4) := n1
  have N2 : Hid (∀ (W : World), Below w.heap.size w W → ∀ j u, cs[j]? = some u → W.cell? ((⟨g, 0, none⟩ : Addr).add j) = some u) := fun W hW j u hj => by
    rw [show (⟨g, 0, none⟩ : Addr).add j = ⟨g, j, none⟩ by unfold Addr.add; split <;> simp_all]
    have := n2 j u hj
    rw [Nat.zero_add] at this
    rw [hW.cell (p := ⟨g, j, none⟩) hg]
    exact this
  have N3 := Lib.hid n3
  have N4 := Lib.hid n4
  have HMX := Lib.hid (And.intro h0 hmx)
  have HIM := Lib.hid hm
  have CRB := Lib.hid (fun (g6 cap6 : Nat) (W : World) (hg6 : g6 < W.heap.size) (hr : RdIs W W.heap.size g6 0 (its ++ [.mk 2 0 (List.replicate N 0) []])) (hc : m + 1 ≤ cap6) => rarray_any g6 0 (m + 1) cap6 W.heap.size (its ++ [.mk 2 0 (List.replicate N 0) []]) W (Nat.le_refl _) hg6 hr (by rw [List.length_append, hm]; rfl) (by omega) (by omega) hc)
  have CE := Lib.hid (fun v W (hr : RdI W W.heap.size v (.mk 4 0 [] (its ++ [.mk 2 0 (List.replicate N 0) []]))) => rencode_any (.mk 4 0 [] (its ++ [.mk 2 0 (List.replicate N 0) []])) v W W.heap.size hp hh (fun _ => Nat.le_trans hlen (by decide)) (Nat.le_refl _) hr)
  rw [enc_ok hF] at CE
  obtain ⟨X, hX⟩ : ∃ X, X = Itm.mk 4 0 [] (its ++ [.mk 2 0 (List.replicate N 0) []]) := ⟨_, rfl⟩
  have HXE : Hid (Itm.mk 4 0 [] (its ++ [.mk 2 0 (List.replicate N 0) []]) = X) := hX.symm
  rw [← hX] at CE CRB hlen hN
  rw [← hX]
  clear hX hF hp hh
  generalize wri X = BL at *
  have CK := Lib.hid (fun (A : Option Addr) (c' : Nat) (W : World) (hr : Rd W W.heap.size A BL.length BL) => crbytes_any k A BL.length c' W.heap.size BL W hr (Nat.le_trans hlen (by decide)))
  have HCL : Hid ((crcBytes k BL).length ≤ 4) := by show _ ≤ _; rw [crcBytes_len]; exact sumN_le k
  generalize crcBytes k BL = SB at *
  obtain ⟨M, hM⟩ : ∃ M, BL.length = M + N := ⟨BL.length - N, by omega⟩
  have HMM : Hid (BL.length - N = M) := by show _ = _; omega
  rw [HMM.out]
  have hwr : wrap64 ((BL.length : Int) - (N : Int)) = (M : Int) := by rw [hM]; unfold wrap64; omega
  have HLB := Lib.hid hlen
  have HM2 : Hid (M ≤ BL.length) := by show _ ≤ _; omega
  have HG := Lib.hid hg
  have HO0 := Lib.hid (fun (W : World) (hb : w.heap.size ≤ W.heap.size) => World.ownsRow_lit (base := w.heap.size) (e := 42) (size := 4) W #[] 0 hb (by decide) rfl)
  clear n1 n2 n3 n4 hi0 hz0 hz1 hz2' h hm h0 hmx hlen hN hM hg hk
  go_enter Tryz.func30, Tryz.ntmps30
  go_wp2_with fail
  refine wp_region_held_drew (S := fun W => Below w.heap.size w W) (by kernel_rfl) Below.drew_ (fun hHeld => ?_)
  refine takeSl (i := 1) (v := ?_) rfl (by kernel_rfl) (by kernel_rfl) (by kernel_rfl) (fun _ _ _ h => h) (by rfl) ?_ (by assumption) ?_
  rotate_left
  · (intro w hSw; go_simp; try with_reducible rfl)
  try simp only [Act.put]
  try simp only [List.setIfInBounds_toArray]
  try simp only [List.set_cons_succ]
  try simp only [List.set_cons_zero]
  refine takeSl (i := 3) (v := ?_) rfl (by kernel_rfl) (by kernel_rfl) (by kernel_rfl) (fun _ _ _ h => h) (by rfl) ?_ (by assumption) ?_
  rotate_left
  · (intro w hSw; go_simp; try with_reducible rfl)
  try simp only [Act.put]
  try simp only [List.setIfInBounds_toArray]
  try simp only [List.set_cons_succ]
  try simp only [List.set_cons_zero]
  have BT := Lib.hid hHeld
  clear hHeld
  obtain ⟨wc, hwc⟩ : ∃ wc, wc = w.drew := ⟨_, rfl⟩
  rw [← hwc] at BT
  rw [← hwc]
  clear hwc
  refine wpAnyH_ready (rs := [0, 4]) (by kernel_rfl) (by simp) ?_
  refine AllReadyH.cons rfl (fun K hK => ?a0) ?b0
  case' a0 =>
    rw [if_pos (by rfl)]
    go_simp
    have O0 := Lib.hid (HO0.out wc BT.out.size)
    have BN : Hid (Below w.heap.size w (wc.alloc (.cells #[] 42))) := BT.out.alloc BT.out.size _
    have G0 : Hid (wc.heap.size < (wc.alloc (.cells #[] 42)).heap.size) := by show _ < _; simp
    clear BT
    have BT := BN
    clear BN
    refine hK.out _ _ BT.out (fun hHeld => ?_)
    try simp only [Act.put]
    try simp only [List.setIfInBounds_toArray]
    try simp only [List.set_cons_succ]
    try simp only [List.set_cons_zero]
    clear hK K hHeld
    generalize wc.alloc (.cells #[] 42) = wd at *
    generalize wc.heap.size = g0 at *
    clear wc
    obtain ⟨wc, rfl⟩ : ∃ wc, wc = wd := ⟨_, rfl⟩
    refine wpAnyH_ready (rs := [2, 4]) (by kernel_rfl) (by simp) ?_
    refine AllReadyH.cons rfl (fun K hK => ?a1) ?b1
    case' a1 =>
      refine step_append_lies _ (by rfl) (.tmp 23) (.tmp 24) 40 (by rfl) w.heap.size 42 i0 _ 4 64 Tryz.underlying40 HI.out HZ0.out HZ1.out HZ2.out rfl (by decide) _ 0 [] (by rfl) O0.out ⟨g, 0, none⟩ m cap cs (by rfl) N1.out (N2.out _ BT.out) N3.out HMX.out.1 (by have := HMX.out.2; unfold maxLen; omega) (by have := HMX.out.2; omega) BT.out.size _ rfl ?_
      intro g3 cap3 wd ho3 hg3 hat3 hlt3
      rw [Nat.zero_add] at ho3
      rw [Nat.zero_add]
      have O3 : Hid (wd.ownsRow w.heap.size 42 4 (.slice (some ⟨g3, 0, none⟩) m cap3) m cs) := ho3
      have LT3 := Lib.hid hlt3
      have BN : Hid (Below w.heap.size w wd) := step3 BT.out O0.out hg3 BT.out.size
      clear BT ho3 hg3 hat3 hlt3 O0 G0
      try clear GZ
      have BT := BN
      clear BN
      refine hK.out _ _ BT.out (fun hHeld => ?_)
      try simp only [Act.put]
      try simp only [List.setIfInBounds_toArray]
      try simp only [List.set_cons_succ]
      try simp only [List.set_cons_zero]
      clear hK K hHeld
      clear wc
      obtain ⟨wc, rfl⟩ : ∃ wc, wc = wd := ⟨_, rfl⟩
      refine wpAnyH_ready (rs := [4]) (by kernel_rfl) (by simp) ?_
      refine AllReadyH.cons rfl (fun K hK => ?_) AllReadyH.nil
      rw [if_pos (by rfl)]
      refine wp_makeB (.tmp 26) (.tmp 26) 22 rfl 5 Tryz.underlying22 info_u8 N rfl rfl (by have := HN4.out; omega) ?_
      intro wd ho hb
      obtain ⟨A0, c0, hv0, -, -, hr0⟩ := ho.rdn (n := N) (List.length_replicate ..)
      obtain ⟨rfl, rfl⟩ : A0 = some ⟨wc.heap.size, 0, none⟩ ∧ N = c0 := by injection hv0 with h1 h2 h3; exact ⟨h1.symm, h3⟩
      have RZ := Lib.hid hr0
      have GZ : Hid (wc.heap.size < wd.heap.size) := by
        obtain ⟨b, o, e, hlt, -⟩ := hr0.2 HN4.out.2
        injection e with e
        injection e with e1 e2
        show _ < _
        omega
      replace O3 := Lib.hid (ownsRow_below O3.out hb)
      replace LT3 : Hid (g3 < wd.heap.size) := by show _ < _; have := LT3.out; have := GZ.out; omega
      have BN : Hid (Below w.heap.size w wd) := BT.out.trans (hb.mono BT.out.size)
      clear BT hb ho hr0 hv0
      have BT := BN
      clear BN
      refine hK.out _ _ BT.out (fun hHeld => ?_)
      try simp only [Act.put]
      try simp only [List.setIfInBounds_toArray]
      try simp only [List.set_cons_succ]
      try simp only [List.set_cons_zero]
      clear hK K hHeld
      generalize wc.heap.size = gz at *
      clear wc
      obtain ⟨wc, rfl⟩ : ∃ wc, wc = wd := ⟨_, rfl⟩
    case' b1 =>
      refine AllReadyH.cons rfl (fun K hK => ?_) AllReadyH.nil
      rw [if_pos (by rfl)]
      refine wp_makeB (.tmp 26) (.tmp 26) 22 rfl 5 Tryz.underlying22 info_u8 N rfl rfl (by have := HN4.out; omega) ?_
      intro wd ho hb
      obtain ⟨A0, c0, hv0, -, -, hr0⟩ := ho.rdn (n := N) (List.length_replicate ..)
      obtain ⟨rfl, rfl⟩ : A0 = some ⟨wc.heap.size, 0, none⟩ ∧ N = c0 := by injection hv0 with h1 h2 h3; exact ⟨h1.symm, h3⟩
      have RZ := Lib.hid hr0
      have GZ : Hid (wc.heap.size < wd.heap.size) := by
        obtain ⟨b, o, e, hlt, -⟩ := hr0.2 HN4.out.2
        injection e with e
        injection e with e1 e2
        show _ < _
        omega
      have NE : Hid (wc.heap.size ≠ g0) := by show _ ≠ _; have := G0.out; omega
      replace O0 := Lib.hid (ownsRow_below O0.out hb)
      replace G0 : Hid (g0 < wd.heap.size) := by show _ < _; have := G0.out; have := GZ.out; omega
      have BN : Hid (Below w.heap.size w wd) := BT.out.trans (hb.mono BT.out.size)
      clear BT hb ho hr0 hv0
      have BT := BN
      clear BN
      refine hK.out _ _ BT.out (fun hHeld => ?_)
      try simp only [Act.put]
      try simp only [List.setIfInBounds_toArray]
      try simp only [List.set_cons_succ]
      try simp only [List.set_cons_zero]
      clear hK K hHeld
      generalize wc.heap.size = gz at *
      clear wc
      obtain ⟨wc, rfl⟩ : ∃ wc, wc = wd := ⟨_, rfl⟩
      refine wpAnyH_ready (rs := [2]) (by kernel_rfl) (by simp) ?_
      refine AllReadyH.cons rfl (fun K hK => ?_) AllReadyH.nil
      refine step_append_lies _ (by rfl) (.tmp 23) (.tmp 24) 40 (by rfl) w.heap.size 42 i0 _ 4 64 Tryz.underlying40 HI.out HZ0.out HZ1.out HZ2.out rfl (by decide) _ 0 [] (by rfl) O0.out ⟨g, 0, none⟩ m cap cs (by rfl) N1.out (N2.out _ BT.out) N3.out HMX.out.1 (by have := HMX.out.2; unfold maxLen; omega) (by have := HMX.out.2; omega) BT.out.size _ rfl ?_
      intro g3 cap3 wd ho3 hg3 hat3 hlt3
      rw [Nat.zero_add] at ho3
      rw [Nat.zero_add]
      have O3 : Hid (wd.ownsRow w.heap.size 42 4 (.slice (some ⟨g3, 0, none⟩) m cap3) m cs) := ho3
      have LT3 := Lib.hid hlt3
      have BN : Hid (Below w.heap.size w wd) := step3 BT.out O0.out hg3 BT.out.size
      replace RZ := Lib.hid ((RZ.out.grownS hg3 (Nat.le_refl _) (fun b o e e2 => by injection e with e; injection e with e1; injection e2 with e2; exact NE.out (by rw [e1]; exact e2.symm))).more hg3.size)
      clear NE
      clear BT ho3 hg3 hat3 hlt3 O0 G0
      try clear GZ
      have BT := BN
      clear BN
      refine hK.out _ _ BT.out (fun hHeld => ?_)
      try simp only [Act.put]
      try simp only [List.setIfInBounds_toArray]
      try simp only [List.set_cons_succ]
      try simp only [List.set_cons_zero]
      clear hK K hHeld
      clear wc
      obtain ⟨wc, rfl⟩ : ∃ wc, wc = wd := ⟨_, rfl⟩
  case' b0 =>
    refine AllReadyH.cons rfl (fun K hK => ?_) AllReadyH.nil
    rw [if_pos (by rfl)]
    refine wp_makeB (.tmp 26) (.tmp 26) 22 rfl 5 Tryz.underlying22 info_u8 N rfl rfl (by have := HN4.out; omega) ?_
    intro wd ho hb
    obtain ⟨A0, c0, hv0, -, -, hr0⟩ := ho.rdn (n := N) (List.length_replicate ..)
    obtain ⟨rfl, rfl⟩ : A0 = some ⟨wc.heap.size, 0, none⟩ ∧ N = c0 := by injection hv0 with h1 h2 h3; exact ⟨h1.symm, h3⟩
    have RZ := Lib.hid hr0
    have GZ : Hid (wc.heap.size < wd.heap.size) := by
      obtain ⟨b, o, e, hlt, -⟩ := hr0.2 HN4.out.2
      injection e with e
      injection e with e1 e2
      show _ < _
      omega
    have BN : Hid (Below w.heap.size w wd) := BT.out.trans (hb.mono BT.out.size)
    clear BT hb ho hr0 hv0
    have BT := BN
    clear BN
    refine hK.out _ _ BT.out (fun hHeld => ?_)
    try simp only [Act.put]
    try simp only [List.setIfInBounds_toArray]
    try simp only [List.set_cons_succ]
    try simp only [List.set_cons_zero]
    clear hK K hHeld
    generalize wc.heap.size = gz at *
    clear wc
    obtain ⟨wc, rfl⟩ : ∃ wc, wc = wd := ⟨_, rfl⟩
    refine wpAnyH_ready (rs := [0]) (by kernel_rfl) (by simp) ?_
    refine AllReadyH.cons rfl (fun K hK => ?_) AllReadyH.nil
    rw [if_pos (by rfl)]
    go_simp
    have O0 := Lib.hid (HO0.out wc BT.out.size)
    have BN : Hid (Below w.heap.size w (wc.alloc (.cells #[] 42))) := BT.out.alloc BT.out.size _
    have RZ2 := Lib.hid ((RZ.out.alloc (Nat.le_refl _) (.cells #[] 42)).more (le_alloc _ (.cells #[] 42)))
    have NE : Hid (gz ≠ wc.heap.size) := by show _ ≠ _; have := GZ.out; omega
    clear RZ
    have RZ := RZ2
    clear RZ2
    have G0 : Hid (wc.heap.size < (wc.alloc (.cells #[] 42)).heap.size) := by show _ < _; simp
    clear BT
    have BT := BN
    clear BN
    refine hK.out _ _ BT.out (fun hHeld => ?_)
    try simp only [Act.put]
    try simp only [List.setIfInBounds_toArray]
    try simp only [List.set_cons_succ]
    try simp only [List.set_cons_zero]
    clear hK K hHeld
    generalize wc.alloc (.cells #[] 42) = wd at *
    generalize wc.heap.size = g0 at *
    clear wc
    obtain ⟨wc, rfl⟩ : ∃ wc, wc = wd := ⟨_, rfl⟩
    refine wpAnyH_ready (rs := [2]) (by kernel_rfl) (by simp) ?_
    refine AllReadyH.cons rfl (fun K hK => ?_) AllReadyH.nil
    refine step_append_lies _ (by rfl) (.tmp 23) (.tmp 24) 40 (by rfl) w.heap.size 42 i0 _ 4 64 Tryz.underlying40 HI.out HZ0.out HZ1.out HZ2.out rfl (by decide) _ 0 [] (by rfl) O0.out ⟨g, 0, none⟩ m cap cs (by rfl) N1.out (N2.out _ BT.out) N3.out HMX.out.1 (by have := HMX.out.2; unfold maxLen; omega) (by have := HMX.out.2; omega) BT.out.size _ rfl ?_
    intro g3 cap3 wd ho3 hg3 hat3 hlt3
    rw [Nat.zero_add] at ho3
    rw [Nat.zero_add]
    have O3 : Hid (wd.ownsRow w.heap.size 42 4 (.slice (some ⟨g3, 0, none⟩) m cap3) m cs) := ho3
    have LT3 := Lib.hid hlt3
    have BN : Hid (Below w.heap.size w wd) := step3 BT.out O0.out hg3 BT.out.size
    replace RZ := Lib.hid ((RZ.out.grownS hg3 (Nat.le_refl _) (fun b o e e2 => by injection e with e; injection e with e1; injection e2 with e2; exact NE.out (by rw [e1]; exact e2.symm))).more hg3.size)
    clear NE
    clear BT ho3 hg3 hat3 hlt3 O0 G0
    try clear GZ
    have BT := BN
    clear BN
    refine hK.out _ _ BT.out (fun hHeld => ?_)
    try simp only [Act.put]
    try simp only [List.setIfInBounds_toArray]
    try simp only [List.set_cons_succ]
    try simp only [List.set_cons_zero]
    clear hK K hHeld
    clear wc
    obtain ⟨wc, rfl⟩ : ∃ wc, wc = wd := ⟨_, rfl⟩
  all_goals
    refine wpAnyH_ready (rs := [5]) (by kernel_rfl) (by simp) ?_
    refine AllReadyH.cons rfl (fun K hK => ?_) AllReadyH.nil
    rw [if_pos (by rfl)]
    go_simp
    refine (rbytesL_any wc.heap.size (some ⟨gz, 0, none⟩) N N wc.heap.size (List.replicate N 0) wc (Nat.le_refl _) (Nat.le_refl _) RZ.out (by have := HN4.out; omega)).mono ?_
    rintro e w5 ⟨v5, rfl, hv5, hb5⟩
    obtain ⟨k5, n5, A5, nd5, cd5, AL5, nl5, cl5, rfl⟩ := hv5.form
    have V5 := Lib.hid hv5
    replace BT := Lib.hid (BT.out.trans (hb5.mono BT.out.size))
    have OX := Lib.hid (ownsRow_below (ownsRow_below O3.out hb5) ((Below.refl w5.heap.size w5).alloc (Nat.le_refl _) (.cells #[.int .i64 k5, .int .u64 (n5 : Int), .slice A5 nd5 cd5, .slice AL5 nl5 cl5] 42)))
    have NX := Lib.hid (cells4_at (t := 42) w5 (.int .i64 k5) (.int .u64 (n5 : Int)) (.slice A5 nd5 cd5) (.slice AL5 nl5 cl5))
    have NO := Lib.hid (one4 k5 n5 A5 nd5 cd5 AL5 nl5 cl5)
    clear hv5 hb5 O3 RZ
    try clear GZ
    go_simp
    refine hK.out _ _ BT.out (fun hHeld => ?_)
    try simp only [Act.put]
    try simp only [List.setIfInBounds_toArray]
    try simp only [List.set_cons_succ]
    try simp only [List.set_cons_zero]
    clear hK K
    refine wpAnyH_ready (rs := [6]) (by kernel_rfl) (by simp) ?_
    refine AllReadyH.cons rfl (fun K hK => ?_) AllReadyH.nil
    rw [if_pos (by rfl)]
    go_simp
    replace BT := Lib.hid (BT.out.alloc BT.out.size (.cells #[.int .i64 k5, .int .u64 (n5 : Int), .slice A5 nd5 cd5, .slice AL5 nl5 cl5] 42))
    refine hK.out _ _ BT.out (fun hHeld => ?_)
    try simp only [Act.put]
    try simp only [List.setIfInBounds_toArray]
    try simp only [List.set_cons_succ]
    try simp only [List.set_cons_zero]
    clear hK K hHeld
    refine wpAnyH_ready (rs := [7]) (by kernel_rfl) (by simp) ?_
    refine AllReadyH.cons rfl (fun K hK => ?_) AllReadyH.nil
    refine step_append_lies _ (by rfl) (.tmp 25) (.tmp 29) 40 (by rfl) w.heap.size 42 i0 _ 4 64 Tryz.underlying40 HI.out HZ0.out HZ1.out HZ2.out rfl (by decide) _ m _ (by rfl) OX.out ⟨w5.heap.size, 0, none⟩ 1 1 _ (by rfl) rfl NX.out NO.out (by decide) (by have := HMX.out.2; unfold maxLen; omega) (by have := HMX.out.2; omega) BT.out.size _ rfl ?_
    intro g6 cap6 w6 ho6 hg6 hat6 hlt6
    have B6 : Hid (Below w.heap.size w w6) := step3 BT.out OX.out hg6 BT.out.size
    have R6 := Lib.hid (sealed_rowM N4.out B6.out ho6 N1.out HIM.out V5.out hg6 LT3.out)
    have CAP6 : Hid (m + 1 ≤ cap6) := own_cap ho6
    have LT6 := Lib.hid hlt6
    clear BT ho6 hg6 hat6 hlt6 OX NX NO V5 LT3
    have BT := B6
    refine hK.out _ _ BT.out (fun hHeld => ?_)
    try simp only [Act.put]
    try simp only [List.setIfInBounds_toArray]
    try simp only [List.set_cons_succ]
    try simp only [List.set_cons_zero]
    clear hK K hHeld
    refine wpAnyH_ready (rs := [8]) (by kernel_rfl) (by simp) ?_
    refine AllReadyH.cons rfl (fun K hK => ?_) AllReadyH.nil
    rw [if_pos (by rfl)]
    go_simp
    refine (CRB.out g6 cap6 w6 LT6.out R6.out CAP6.out).mono ?_
    rintro e w7 ⟨v7, rfl, hv7, hb7⟩
    obtain ⟨k7, n7, A7, nd7, cd7, AL7, nl7, cl7, rfl⟩ := hv7.form
    have V7 := Lib.hid hv7
    replace BT := Lib.hid (BT.out.trans (hb7.mono BT.out.size))
    clear hv7 hb7
    go_simp
    refine hK.out _ _ BT.out (fun hHeld => ?_)
    try simp only [Act.put]
    try simp only [List.setIfInBounds_toArray]
    try simp only [List.set_cons_succ]
    try simp only [List.set_cons_zero]
    clear hK K
    refine wpAnyH_ready (rs := [9]) (by kernel_rfl) (by simp) ?_
    refine AllReadyH.cons rfl (fun K hK => ?_) AllReadyH.nil
    rw [if_pos (by rfl)]
    go_simp
    refine (CE.out _ _ V7.out).mono ?_
    rintro e w8 ⟨v8, rfl, ho8, hb8⟩
    obtain ⟨A8, c8, rfl, hc8, -, hr8⟩ := ho8.rdn rfl
    have R8 := Lib.hid hr8
    have C8 := Lib.hid hc8
    replace BT := Lib.hid (BT.out.trans (hb8.mono BT.out.size))
    clear ho8 hb8 hc8 hr8
    go_simp
    refine hK.out _ _ BT.out (fun hHeld => ?_)
    try simp only [Act.put]
    try simp only [List.setIfInBounds_toArray]
    try simp only [List.set_cons_succ]
    try simp only [List.set_cons_zero]
    clear hK K
    have hHeld := BT.out
    refine takeSl (i := 10) (v := ?_) rfl (by kernel_rfl) (by kernel_rfl) (by kernel_rfl) (fun _ _ _ h => h) (by rfl) ?_ (by assumption) ?_
    rotate_left
    · (intro w hSw; go_simp; try with_reducible rfl)
    try simp only [Act.put]
    try simp only [List.setIfInBounds_toArray]
    try simp only [List.set_cons_succ]
    try simp only [List.set_cons_zero]
    refine takeSl (i := 11) (v := ?_) rfl (by kernel_rfl) (by kernel_rfl) (by kernel_rfl) (fun _ _ _ h => h) (by rfl) ?_ (by assumption) ?_
    rotate_left
    · (intro w hSw; go_simp; try with_reducible rfl)
    try simp only [Act.put]
    try simp only [List.setIfInBounds_toArray]
    try simp only [List.set_cons_succ]
    try simp only [List.set_cons_zero]
    refine takeSl (i := 13) (v := ?_) rfl (by kernel_rfl) (by kernel_rfl) (by kernel_rfl) (fun _ _ _ h => h) (by rfl) ?_ (by assumption) ?_
    rotate_left
    · (intro w hSw; go_simp; try with_reducible rfl)
    try simp only [Act.put]
    try simp only [List.setIfInBounds_toArray]
    try simp only [List.set_cons_succ]
    try simp only [List.set_cons_zero]
    refine takeSl (i := 12) (v := ?_) rfl (by kernel_rfl) (by kernel_rfl) (by kernel_rfl) (fun _ _ _ h => h) (by rfl) ?_ (by assumption) ?_
    rotate_left
    · (intro w hSw; go_simp; try with_reducible rfl)
    try simp only [Act.put]
    try simp only [List.setIfInBounds_toArray]
    try simp only [List.set_cons_succ]
    try simp only [List.set_cons_zero]
    refine takeSl (i := 14) (v := ?_) rfl (by kernel_rfl) (by kernel_rfl) (by kernel_rfl) (fun _ _ _ h => h) (by rfl) ?_ (by assumption) ?_
    rotate_left
    · (intro w hSw; go_simp; try with_reducible rfl)
    try simp only [Act.put]
    try simp only [List.setIfInBounds_toArray]
    try simp only [List.set_cons_succ]
    try simp only [List.set_cons_zero]
    refine wpAnyH_done (by kernel_rfl) ?_ _
    go_wp2_with fail
    refine (CK.out A8 c8 w8 R8.out).mono ?_
    rintro e w9 ⟨A9, n9, c9, rfl, hr9, hc9, hb9⟩
    have B9 := Lib.hid (BT.out.trans (hb9.mono BT.out.size))
    obtain ⟨D1, d1, k1, hd1, -, r1⟩ := cut_h (P := Tryz.prog) 22 5 Tryz.underlying22 size_u8 c8 (R8.out.below hb9) (M : Int) M rfl HM2.out C8.out
    have HO9 := Lib.hid (Ob.lit w9 [] #[] rfl (Nat.le_refl _) 0 rfl (by decide) : Ob (w9.alloc (.cells #[] 5)) w9.heap.size 5 (.slice (some ⟨w9.heap.size, 0, none⟩) 0 0) [])
    have RD1 := Lib.hid ((r1.more hb9.size).alloc (Nat.le_refl _) (.cells #[] 5))
    have RS9 := Lib.hid hr9
    have H9 : Hid (n9 ≤ 4) := by show _ ≤ _; rw [← hr9.1]; exact HCL.out
    have HBD1 : Hid (([] : List UInt8).length + M ≤ 140737488355328) := by show _ ≤ _; have := HLB.out; have := HM2.out; simp; omega
    have HBD2 : Hid ((([] : List UInt8) ++ BL.take M).length + n9 ≤ 140737488355328) := by show _ ≤ _; have := HLB.out; have := H9.out; rw [List.nil_append, List.length_take]; omega
    clear r1 hb9 hr9 hc9 hd1
    go_wp2_with (first
      | (at_builtin; refine wpList_appB rfl (.tmp 38) (.tmp 44) 22 rfl w9.heap.size 5 Tryz.underlying22 info_u8 _ [] rfl HO9.out w9.heap.size D1 M d1 (BL.take M) rfl RD1.out HBD1.out (le_alloc _ _) ?_; intro v3 w10 ho3 hb3; have O10 := Lib.hid ho3; have Y10 := Lib.hid (((Below.refl w9.heap.size w9).alloc (Nat.le_refl _) _).trans hb3); clear ho3 hb3)
      | (at_builtin; refine wpList_appB rfl (.tmp 45) (.tmp 46) 22 rfl w9.heap.size 5 Tryz.underlying22 info_u8 _ _ rfl O10.out w9.heap.size A9 n9 c9 SB rfl (RS9.out.below Y10.out) HBD2.out Y10.out.size ?_; intro v4 w11 ho4 hb4; have O11 := Lib.hid ho4; have Y11 := Lib.hid (Y10.out.trans hb4); clear ho4 hb4)
      | fail)
    have ho := O11.out
    rw [List.nil_append] at ho
    obtain ⟨AE, cE, rfl, hcE, -, hrE⟩ := ho.rd
    go_ret
    exact ⟨_, _, _, rfl, hrE, hcE, B9.out.trans (Y11.out.mono B9.out.size)⟩
end Go.Proofs.YtbdjkihgcmebgaaGreatDoor
