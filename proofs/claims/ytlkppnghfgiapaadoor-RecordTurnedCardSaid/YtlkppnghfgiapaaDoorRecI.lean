/- Layer 14's reference: Next, where a record may stand. (Made by gen/RecI.py.) -/
import Derived.Test.YtlkppnghfgiapaaDoorRecH
import Derived.Laws.CopyOwn
import Derived.Laws.Tables
namespace Go.Proofs.YtlkppnghfgiapaaDoor
open Go.RowKit

theorem step_st2 {P : Program} {w : World} {ops : Array Oper} {o : Oper} {a : Act} {K : Act → World → Prop} {Q : Exit → Act → World → Prop} {E : Prop} (hgd : o.guard = none) (ty : TypeId) (x y : Operand) (ho : o.op = .store ty x y)
    (g : Nat) (v0 v1 : Value) (hx : a.eval x = .pointer (some ⟨g, 0, none⟩)) (hy : a.eval y = .agg #[v0, v1]) (t : TypeId) (old : Array Value) (hg : w.heap[g]? = some (.cells old t (0, 0)))
    (hi : (P.info? ty).map (·.size) = some 2) (hold : old.size = 2) (h1 : ([v0, v1] : List Value).all (·.oneCell') = true)
    (h : ∀ W', W'.heap[g]? = some (.cells #[v0, v1] t (0, 0)) → (∀ (B : Nat) (w0 : World), Below B w0 w → B ≤ g → Below B w0 W') → W'.heap.size = w.heap.size → (∀ j, j ≠ g → W'.heap[j]? = w.heap[j]?) → K (a.put o.dst undef) W') :
    if Region.wanted o (yielded ops a.tmps) = true then Oper.wp P o a w K Q else E := by
  have hw : Region.wanted o (yielded ops a.tmps) = true := by simp [Region.wanted, hgd]
  rw [if_pos hw]
  exact wp_store_row ty x y ho g #[v0, v1] hx hy t old hg hi hold (Array.all_eq_true_iff_forall_mem.2 fun v hv => List.all_eq_true.1 h1 v (by simpa using hv))
    (h _ (setRow_heap w g old _ t _ hg) (fun B w0 hb hB => below_setRow hb hB _) (setRow_size w g _) (fun j hj => setRow_other w g j _ hj))
theorem Ob.not_at14 {B g : Nat} {w : World} {t t' : TypeId} {v : Value} {l : List UInt8} {cs : Array Value} {fr : Nat × Nat} (h : Ob w B t v l) (hx : w.heap[g]? = some (.cells cs t' fr)) (hne : t ≠ t') : v.ownBlock ≠ some g := by
  rcases h.2 with ⟨hv, -⟩ | ⟨b, cap, cur, hv, hb, hg, -⟩
  · rw [hv]
    intro e
    cases e
  · rw [hv]
    intro e
    have e : some b = some g := e
    injection e with e
    subst e
    rw [hx] at hg
    injection hg with hg
    injection hg with _ hg _
    exact hne hg.symm
theorem Ob.far14 {B g : Nat} {w W' : World} {t : TypeId} {v : Value} {l : List UInt8} (h : Ob w B t v l) (hne : v.ownBlock ≠ some g) (hk : ∀ j, j ≠ g → W'.heap[j]? = w.heap[j]?) : Ob W' B t v l := by
  refine ⟨h.1, ?_⟩
  rcases h.2 with hn | ⟨b, cap, cur, rfl, hb, hg, rest⟩
  · exact .inl hn
  · exact .inr ⟨b, cap, cur, rfl, hb, (hk b (fun e => hne (by rw [e]; rfl))).trans hg, rest⟩

set_option maxRecDepth 100000 in
set_option maxHeartbeats 16000000 in
theorem rnext_may (salt : Nat) (A : Option Addr) (n c B : Nat) (l : List UInt8) (w : World) (hsl : salt < 18446744073709551616) (h : Rd w B A n l) (hB : B ≤ w.heap.size) (hn : n ≤ 140737488355328) (hc : n ≤ c) (hz : ¬ l.getD 2 0 = 0) (hm : ¬ 8192 < lenR l) (hs : ¬ n < lenR l + 7) :
    Calls Tryd.prog 14 #[.int .u64 (salt : Int), .slice A n c] w (NexR salt l w) := by
  obtain ⟨w1, hw1⟩ : ∃ w1, w1 = w.alloc (.cells #[.int .i64 0, .slice none 0 0] 25) := ⟨_, rfl⟩
  have hb1 : Below w.heap.size w w1 := by rw [hw1]; exact (Below.refl _ _).alloc (Nat.le_refl _) _
  have HB := Lib.hid hb1
  have HZ0 : Hid (w1.heap[w.heap.size]? = some (.cells #[.int .i64 0, .slice none 0 0] 25 (0, 0))) := by show _ = _; rw [hw1]; exact heap_alloc_new w _
  have HG0 : Hid (w.heap.size < w1.heap.size) := (Array.getElem?_eq_some_iff.1 HZ0.out).1
  have HW := Lib.hid hw1
  have h1 : Rd w1 B A n l := h.below (hb1.mono hB)
  have hB1 : B ≤ w1.heap.size := Nat.le_trans hB hb1.size
  obtain ⟨b, o, rfl, hb, hcell⟩ := h1.2 (by omega)
  have q2 := hcell 2 (by omega)
  obtain ⟨A2, c2, cut2, -, -, hr2⟩ := cut_h (P := Tryd.prog) 23 5 Tryd.underlying23 size_u8 c h1 2 2 rfl (by omega) hc
  have CG := Lib.hid (rget_any A2 2 c2 (l.take 2) w1 B hr2 (by decide))
  have hlR : beNat (l.take 2) = lenR l := rfl
  rw [hlR] at CG
  have hll : l.length = n := h.1
  have h3i : ¬ (n : Int) < 3 := by omega
  have h2i : (2 : Int) < (n : Int) := by omega
  have hzi : (((l.getD 2 0).toNat : Int) == 0) = false := by
    have : (l.getD 2 0).toNat ≠ 0 := fun e => hz (UInt8.toNat_inj.1 e)
    rw [beq_eq_false_iff_ne]
    omega
  obtain ⟨M, hM⟩ : ∃ M, M = lenR l := ⟨_, rfl⟩
  obtain ⟨X, hX⟩ : ∃ X, X = l.getD 2 0 := ⟨_, rfl⟩
  obtain ⟨dd, hdd⟩ : ∃ dd, dd = (l.drop 3).take M := ⟨_, rfl⟩
  obtain ⟨A3, c3, cut3, -, -, hr3⟩ := cut_lh14 (P := Tryd.prog) 23 5 Tryd.underlying23 size_u8 c h1 3 ((3 : Int) + (M : Int)) 3 (3 + M) rfl (by omega) (by omega) (by omega) hc (by omega)
  obtain ⟨A4, c4, cut4, -, -, hr4⟩ := cut_h (P := Tryd.prog) 23 5 Tryd.underlying23 size_u8 c h1 ((M : Int) + 7) (M + 7) (by omega) (by omega) hc
  rw [show 3 + M - 3 = M by omega] at cut3 hr3
  rw [← hdd] at hr3
  rw [← hM] at CG
  rw [← hX] at q2 hzi
  have HQ : Hid (∀ W, Below w1.heap.size w1 W → W.cell? ⟨b, o + 2, none⟩ = some (.int .u8 (X.toNat : Int))) := fun W hW => (hW.cell (p := ⟨b, o + 2, none⟩) (by show b < _; omega)).trans q2
  have R3 : Hid (∀ W, Below w1.heap.size w1 W → Rd W B A3 M dd) := fun W hW => hr3.below (hW.mono hB1)
  have R4 : Hid (∀ W, Below w1.heap.size w1 W → Rd W B A4 (M + 7) (l.take (M + 7))) := fun W hW => hr4.below (hW.mono hB1)
  have wM : IntKind.i64.wrap (M : Int) = (M : Int) := by rw [IntKind.wrap_i64]; omega
  have w3M : IntKind.i64.wrap (3 + (M : Int)) = 3 + (M : Int) := by rw [IntKind.wrap_i64]; omega
  have wM7 : IntKind.i64.wrap ((M : Int) + 7) = (M : Int) + 7 := by rw [IntKind.wrap_i64]; omega
  have wX : IntKind.i64.wrap (X.toNat : Int) = (X.toNat : Int) := by have := X.toNat_lt; rw [IntKind.wrap_i64]; omega
  have hmi : ¬ (8192 : Int) < (M : Int) := by omega
  have hsi : ¬ (n : Int) < (M : Int) + 7 := by omega
  have HDL : Hid (dd.length = M) := hr3.1
  have HM : Hid (M ≤ 8192) := by show _ ≤ _; omega
  have HNX : Hid (nextR salt l = if frameR salt ⟨(X.toNat : Int), dd⟩ = l.take (M + 7) then (⟨(X.toNat : Int), dd⟩, M + 7, 0) else (.zero, 0, 140)) := by
    show _ = _
    unfold nextR
    rw [if_neg (by omega), if_neg (by rintro (h | h); exact hz h; exact hm h), if_neg (by omega), hdd, hX, hM]
    rfl
  clear h h1 hb1 hw1 hB hB1 hb hcell hr2 hr3 hr4 hn hc hz hm hs hlR hll hM hX hdd
  go_enter Tryd.func14, Tryd.ntmps14
  go_wp2_with fail
  rw [← HW.out]
  refine CG.out.mono ?_
  rintro e u1 ⟨rfl, rfl⟩
  clear CG cut2
  go_upto_region 8 with fail
  go_cut [8] (fun v wx => Hid (∃ g8 A8 c8, v = .pointer (some ⟨g8, 0, none⟩) ∧ w1.heap.size ≤ g8 ∧ wx.heap[g8]? = some (.cells #[.int .i64 (X.toNat : Int), .slice A8 M c8] 25 (0, 0)) ∧ Ob wx w1.heap.size 5 (.slice A8 M c8) dd ∧ Below w1.heap.size w1 wx))
  case first =>
    refine wp_region_held_drew (S := fun W => Below w1.heap.size w1 W) (by kernel_rfl) (Below.refl _ _).drew (fun hHeld => ?_)
    refine takeR (i := 0) (v := ?v0_1) rfl (by kernel_rfl) (by kernel_rfl) (by kernel_rfl) (fun _ _ _ h => h) (by rfl) ?hy0_1 (by assumption) ?rest0_1
    case hy0_1 => (intro W hSw; have q1 := HQ.out W hSw; go_simp; try with_reducible rfl)
    try simp only [Act.put]
    try simp only [List.setIfInBounds_toArray]
    try simp only [List.set_cons_succ]
    try simp only [List.set_cons_zero]
    refine takeR (i := 1) (v := ?v1_2) rfl (by kernel_rfl) (by kernel_rfl) (by kernel_rfl) (fun _ _ _ h => h) (by rfl) ?hy1_2 (by assumption) ?rest1_2
    case hy1_2 => (intro W hSw; have q1 := HQ.out W hSw; go_simp; try with_reducible rfl)
    try simp only [Act.put]
    try simp only [List.setIfInBounds_toArray]
    try simp only [List.set_cons_succ]
    try simp only [List.set_cons_zero]
    refine takeR (i := 2) (v := ?v2_3) rfl (by kernel_rfl) (by kernel_rfl) (by kernel_rfl) (fun _ _ _ h => h) (by rfl) ?hy2_3 (by assumption) ?rest2_3
    case hy2_3 => (intro W hSw; have q1 := HQ.out W hSw; go_simp; try with_reducible rfl)
    try simp only [Act.put]
    try simp only [List.setIfInBounds_toArray]
    try simp only [List.set_cons_succ]
    try simp only [List.set_cons_zero]
    refine takeR (i := 3) (v := ?v3_4) rfl (by kernel_rfl) (by kernel_rfl) (by kernel_rfl) (fun _ _ _ h => h) (by rfl) ?hy3_4 (by assumption) ?rest3_4
    case hy3_4 => (intro W hSw; have q1 := HQ.out W hSw; go_simp; try with_reducible rfl)
    try simp only [Act.put]
    try simp only [List.setIfInBounds_toArray]
    try simp only [List.set_cons_succ]
    try simp only [List.set_cons_zero]
    refine takeR (i := 5) (v := ?v5_5) rfl (by kernel_rfl) (by kernel_rfl) (by kernel_rfl) (fun _ _ _ h => h) (by rfl) ?hy5_5 (by assumption) ?rest5_5
    case hy5_5 => (intro W hSw; have q1 := HQ.out W hSw; go_simp; try with_reducible rfl)
    try simp only [Act.put]
    try simp only [List.setIfInBounds_toArray]
    try simp only [List.set_cons_succ]
    try simp only [List.set_cons_zero]
    refine takeR (i := 6) (v := ?v6_6) rfl (by kernel_rfl) (by kernel_rfl) (by kernel_rfl) (fun _ _ _ h => h) (by rfl) ?hy6_6 (by assumption) ?rest6_6
    case hy6_6 => (intro W hSw; have q1 := HQ.out W hSw; go_simp; try with_reducible rfl)
    try simp only [Act.put]
    try simp only [List.setIfInBounds_toArray]
    try simp only [List.set_cons_succ]
    try simp only [List.set_cons_zero]
    refine takeR (i := 7) (v := ?v7_7) rfl (by kernel_rfl) (by kernel_rfl) (by kernel_rfl) (fun _ _ _ h => h) (by rfl) ?hy7_7 (by assumption) ?rest7_7
    case hy7_7 => (intro W hSw; have q1 := HQ.out W hSw; go_simp; try with_reducible rfl)
    try simp only [Act.put]
    try simp only [List.setIfInBounds_toArray]
    try simp only [List.set_cons_succ]
    try simp only [List.set_cons_zero]
    refine takeR (i := 8) (v := ?v8_8) rfl (by kernel_rfl) (by kernel_rfl) (by kernel_rfl) (fun _ _ _ h => h) (by rfl) ?hy8_8 (by assumption) ?rest8_8
    case hy8_8 => (intro W hSw; have q1 := HQ.out W hSw; go_simp; try with_reducible rfl)
    try simp only [Act.put]
    try simp only [List.setIfInBounds_toArray]
    try simp only [List.set_cons_succ]
    try simp only [List.set_cons_zero]
    have BT : Hid (Below w1.heap.size w1 w1.drew) := (Below.refl _ _).drew
    clear hHeld
    obtain ⟨wc, hwc⟩ : ∃ wc, wc = w1.drew := ⟨_, rfl⟩
    rw [← hwc] at BT
    rw [← hwc]
    clear hwc
    refine wpAnyH_ready (rs := [4, 11]) (by kernel_rfl) (by simp) ?_
    refine AllReadyH.cons rfl (fun K hK => ?_) ?_
    · skip
      rw [if_pos (by rfl)]
      go_simp
      obtain ⟨wd, hwd⟩ : ∃ wd, wd = wc.alloc (.cells #[] 5) := ⟨_, rfl⟩
      obtain ⟨gy, hgy⟩ : ∃ gy, gy = wc.heap.size := ⟨_, rfl⟩
      have BU : Hid (Below w1.heap.size w1 wd) := by show Below _ _ _; rw [hwd]; exact BT.out.alloc BT.out.size _
      have OD : Hid (Ob wd w1.heap.size 5 (.slice (some ⟨gy, 0, none⟩) 0 0) []) := by show Ob _ _ _ _ _; rw [hwd, hgy]; exact Ob.lit wc [] #[] rfl BT.out.size 0 rfl (by decide)
      rw [← hwd, ← hgy]
      refine hK.out _ _ BU.out (fun hHeld => ?_)
      try simp only [Act.put]
      try simp only [List.setIfInBounds_toArray]
      try simp only [List.set_cons_succ]
      try simp only [List.set_cons_zero]
      clear hK K hHeld hwd hgy BT
      have BT := BU
      clear BU
      obtain ⟨wc, rfl⟩ : ∃ wc, wc = wd := ⟨_, rfl⟩
      refine wpAnyH_ready (rs := [9, 11]) (by kernel_rfl) (by simp) ?_
      refine AllReadyH.cons rfl (fun K hK => ?_) ?_
      · skip
        refine step_appG (by rfl) (.tmp 38) (.tmp 42) 23 (by rfl) w1.heap.size 5 Tryd.underlying23 info_u8 (.slice (some ⟨gy, 0, none⟩) 0 0) [] (by rfl) OD.out _ A3 M c3 dd (by rfl) (R3.out _ BT.out) (by have := HM.out; simp only [List.length_nil]; omega) BT.out.size ?_
        intro v9 w9 ho9 hg9
        have B9 : Hid (Below w1.heap.size w1 w9) := grown_trans hg9 OD.out BT.out
        rw [List.nil_append] at ho9
        obtain ⟨A8, c8, rfl, -, -, -⟩ := ho9.rd
        rw [HDL.out] at ho9
        rw [HDL.out]
        have O9 := Lib.hid ho9
        clear ho9 hg9 OD BT
        show K (Act.put _ (some 43) (.slice A8 M c8)) w9
        refine hK.out _ _ B9.out (fun hHeld => ?_)
        try simp only [Act.put]
        try simp only [List.setIfInBounds_toArray]
        try simp only [List.set_cons_succ]
        try simp only [List.set_cons_zero]
        clear hK K
        refine takeR (i := 10) (v := ?v10_9) rfl (by kernel_rfl) (by kernel_rfl) (by kernel_rfl) (fun _ _ _ h => h) (by rfl) ?hy10_9 (by assumption) ?rest10_9
        case hy10_9 => (intro W hSw; go_simp; try with_reducible rfl)
        try simp only [Act.put]
        try simp only [List.setIfInBounds_toArray]
        try simp only [List.set_cons_succ]
        try simp only [List.set_cons_zero]
        clear hHeld
        have BT := B9
        clear B9
        obtain ⟨wc, rfl⟩ : ∃ wc, wc = w9 := ⟨_, rfl⟩
        refine wpAnyH_ready (rs := [11]) (by kernel_rfl) (by simp) ?_
        refine AllReadyH.cons rfl (fun K hK => ?_) AllReadyH.nil
        rw [if_pos (by rfl)]
        go_simp
        obtain ⟨wd, hwd⟩ : ∃ wd, wd = wc.alloc (.cells #[.int .i64 0, .slice none 0 0] 25) := ⟨_, rfl⟩
        obtain ⟨g8, hg8⟩ : ∃ g8, g8 = wc.heap.size := ⟨_, rfl⟩
        have BU : Hid (Below w1.heap.size w1 wd) := by show Below _ _ _; rw [hwd]; exact BT.out.alloc BT.out.size _
        have XB : Hid (wd.heap[g8]? = some (.cells #[.int .i64 0, .slice none 0 0] 25 (0, 0))) := by show _ = _; rw [hwd, hg8]; exact heap_alloc_new wc _
        have HG8 : Hid (w1.heap.size ≤ g8) := by show _ ≤ _; rw [hg8]; exact BT.out.size
        have O92 : Hid (Ob wd w1.heap.size 5 (.slice A8 M c8) dd) := by show Ob _ _ _ _ _; rw [hwd]; exact O9.out.alloc _
        have HNO : Hid ((Value.slice A8 M c8).ownBlock ≠ some g8) := fun e => by have := (World.ownsRow.lt O9.out g8 e).2; omega
        rw [← hwd, ← hg8]
        refine hK.out _ _ BU.out (fun hHeld => ?_)
        try simp only [Act.put]
        try simp only [List.setIfInBounds_toArray]
        try simp only [List.set_cons_succ]
        try simp only [List.set_cons_zero]
        clear hK K hHeld hwd hg8 BT O9
        have BT := BU
        clear BU
        have O9 := O92
        clear O92
        obtain ⟨wc, rfl⟩ : ∃ wc, wc = wd := ⟨_, rfl⟩
        refine wpAnyH_ready (rs := [12]) (by kernel_rfl) (by simp) ?_
        refine AllReadyH.cons rfl (fun K hK => ?_) AllReadyH.nil
        refine step_st2 (by rfl) 25 (.tmp 8) (.tmp 44) (by rfl) g8 (.int .i64 (X.toNat : Int)) (.slice A8 M c8) (by rfl) (by rfl) 25 _ XB.out (by rfl) (by rfl) (by rfl) ?_
        intro W9 hx9 hb9 hs9 ho9
        have B9 : Hid (Below w1.heap.size w1 W9) := hb9 _ _ BT.out HG8.out
        have E9 : Hid (W9.heap[g8]? = some (.cells #[.int .i64 (X.toNat : Int), .slice A8 M c8] 25 (0, 0)) ∧ Ob W9 w1.heap.size 5 (.slice A8 M c8) dd) := ⟨hx9, O9.out.far14 HNO.out ho9⟩
        clear hx9 hb9 hs9 ho9
        show K (Act.put _ none undef) W9
        refine hK.out _ _ B9.out (fun hHeld => ?_)
        try simp only [Act.put]
        try simp only [List.setIfInBounds_toArray]
        try simp only [List.set_cons_succ]
        try simp only [List.set_cons_zero]
        clear hK K hHeld
        refine wpAnyH_done (by kernel_rfl) ?_ _
        go_wp2_with fail
        go_meet
        case rel => exact ⟨g8, A8, c8, rfl, HG8.out, E9.out.1, E9.out.2, B9.out⟩
      refine AllReadyH.cons rfl (fun K hK => ?_) AllReadyH.nil
      rw [if_pos (by rfl)]
      go_simp
      obtain ⟨wd, hwd⟩ : ∃ wd, wd = wc.alloc (.cells #[.int .i64 0, .slice none 0 0] 25) := ⟨_, rfl⟩
      obtain ⟨g8, hg8⟩ : ∃ g8, g8 = wc.heap.size := ⟨_, rfl⟩
      have BU : Hid (Below w1.heap.size w1 wd) := by show Below _ _ _; rw [hwd]; exact BT.out.alloc BT.out.size _
      have XB : Hid (wd.heap[g8]? = some (.cells #[.int .i64 0, .slice none 0 0] 25 (0, 0))) := by show _ = _; rw [hwd, hg8]; exact heap_alloc_new wc _
      have HG8 : Hid (w1.heap.size ≤ g8) := by show _ ≤ _; rw [hg8]; exact BT.out.size
      have OD2 : Hid (Ob wd w1.heap.size 5 (.slice (some ⟨gy, 0, none⟩) 0 0) []) := by show Ob _ _ _ _ _; rw [hwd]; exact OD.out.alloc _
      have HNE : Hid (gy ≠ g8) := by show gy ≠ g8; have := (World.ownsRow.lt OD.out gy rfl).2; omega
      rw [← hwd, ← hg8]
      refine hK.out _ _ BU.out (fun hHeld => ?_)
      try simp only [Act.put]
      try simp only [List.setIfInBounds_toArray]
      try simp only [List.set_cons_succ]
      try simp only [List.set_cons_zero]
      clear hK K hHeld hwd hg8 BT OD
      have BT := BU
      clear BU
      have OD := OD2
      clear OD2
      obtain ⟨wc, rfl⟩ : ∃ wc, wc = wd := ⟨_, rfl⟩
      refine wpAnyH_ready (rs := [9]) (by kernel_rfl) (by simp) ?_
      refine AllReadyH.cons rfl (fun K hK => ?_) AllReadyH.nil
      refine step_appG (by rfl) (.tmp 38) (.tmp 42) 23 (by rfl) w1.heap.size 5 Tryd.underlying23 info_u8 (.slice (some ⟨gy, 0, none⟩) 0 0) [] (by rfl) OD.out _ A3 M c3 dd (by rfl) (R3.out _ BT.out) (by have := HM.out; simp only [List.length_nil]; omega) BT.out.size ?_
      intro v9 w9 ho9 hg9
      have B9 : Hid (Below w1.heap.size w1 w9) := grown_trans hg9 OD.out BT.out
      rw [List.nil_append] at ho9
      obtain ⟨A8, c8, rfl, -, -, -⟩ := ho9.rd
      rw [HDL.out] at ho9
      rw [HDL.out]
      have O9 := Lib.hid ho9
      have XB2 : Hid (w9.heap[g8]? = some (.cells #[.int .i64 0, .slice none 0 0] 25 (0, 0))) := (hg9.block g8 (Array.getElem?_eq_some_iff.1 XB.out).1 (fun e => by injection e with e; exact HNE.out e.symm)).trans XB.out
      have HNO : Hid ((Value.slice A8 M c8).ownBlock ≠ some g8) := O9.out.not_at14 XB2.out (by decide)
      clear ho9 hg9 OD BT XB
      show K (Act.put _ (some 43) (.slice A8 M c8)) w9
      refine hK.out _ _ B9.out (fun hHeld => ?_)
      try simp only [Act.put]
      try simp only [List.setIfInBounds_toArray]
      try simp only [List.set_cons_succ]
      try simp only [List.set_cons_zero]
      clear hK K
      refine takeR (i := 10) (v := ?v10_10) rfl (by kernel_rfl) (by kernel_rfl) (by kernel_rfl) (fun _ _ _ h => h) (by rfl) ?hy10_10 (by assumption) ?rest10_10
      case hy10_10 => (intro W hSw; go_simp; try with_reducible rfl)
      try simp only [Act.put]
      try simp only [List.setIfInBounds_toArray]
      try simp only [List.set_cons_succ]
      try simp only [List.set_cons_zero]
      clear hHeld
      have BT := B9
      clear B9
      have XB := XB2
      clear XB2
      obtain ⟨wc, rfl⟩ : ∃ wc, wc = w9 := ⟨_, rfl⟩
      refine wpAnyH_ready (rs := [12]) (by kernel_rfl) (by simp) ?_
      refine AllReadyH.cons rfl (fun K hK => ?_) AllReadyH.nil
      refine step_st2 (by rfl) 25 (.tmp 8) (.tmp 44) (by rfl) g8 (.int .i64 (X.toNat : Int)) (.slice A8 M c8) (by rfl) (by rfl) 25 _ XB.out (by rfl) (by rfl) (by rfl) ?_
      intro W9 hx9 hb9 hs9 ho9
      have B9 : Hid (Below w1.heap.size w1 W9) := hb9 _ _ BT.out HG8.out
      have E9 : Hid (W9.heap[g8]? = some (.cells #[.int .i64 (X.toNat : Int), .slice A8 M c8] 25 (0, 0)) ∧ Ob W9 w1.heap.size 5 (.slice A8 M c8) dd) := ⟨hx9, O9.out.far14 HNO.out ho9⟩
      clear hx9 hb9 hs9 ho9
      show K (Act.put _ none undef) W9
      refine hK.out _ _ B9.out (fun hHeld => ?_)
      try simp only [Act.put]
      try simp only [List.setIfInBounds_toArray]
      try simp only [List.set_cons_succ]
      try simp only [List.set_cons_zero]
      clear hK K hHeld
      refine wpAnyH_done (by kernel_rfl) ?_ _
      go_wp2_with fail
      go_meet
      case rel => exact ⟨g8, A8, c8, rfl, HG8.out, E9.out.1, E9.out.2, B9.out⟩
    refine AllReadyH.cons rfl (fun K hK => ?_) AllReadyH.nil
    rw [if_pos (by rfl)]
    go_simp
    obtain ⟨wd, hwd⟩ : ∃ wd, wd = wc.alloc (.cells #[.int .i64 0, .slice none 0 0] 25) := ⟨_, rfl⟩
    obtain ⟨g8, hg8⟩ : ∃ g8, g8 = wc.heap.size := ⟨_, rfl⟩
    have BU : Hid (Below w1.heap.size w1 wd) := by show Below _ _ _; rw [hwd]; exact BT.out.alloc BT.out.size _
    have XB : Hid (wd.heap[g8]? = some (.cells #[.int .i64 0, .slice none 0 0] 25 (0, 0))) := by show _ = _; rw [hwd, hg8]; exact heap_alloc_new wc _
    have HG8 : Hid (w1.heap.size ≤ g8) := by show _ ≤ _; rw [hg8]; exact BT.out.size
    rw [← hwd, ← hg8]
    refine hK.out _ _ BU.out (fun hHeld => ?_)
    try simp only [Act.put]
    try simp only [List.setIfInBounds_toArray]
    try simp only [List.set_cons_succ]
    try simp only [List.set_cons_zero]
    clear hK K hHeld hwd hg8 BT
    have BT := BU
    clear BU
    obtain ⟨wc, rfl⟩ : ∃ wc, wc = wd := ⟨_, rfl⟩
    refine wpAnyH_ready (rs := [4]) (by kernel_rfl) (by simp) ?_
    refine AllReadyH.cons rfl (fun K hK => ?_) AllReadyH.nil
    rw [if_pos (by rfl)]
    go_simp
    obtain ⟨wd, hwd⟩ : ∃ wd, wd = wc.alloc (.cells #[] 5) := ⟨_, rfl⟩
    obtain ⟨gy, hgy⟩ : ∃ gy, gy = wc.heap.size := ⟨_, rfl⟩
    have BU : Hid (Below w1.heap.size w1 wd) := by show Below _ _ _; rw [hwd]; exact BT.out.alloc BT.out.size _
    have OD : Hid (Ob wd w1.heap.size 5 (.slice (some ⟨gy, 0, none⟩) 0 0) []) := by show Ob _ _ _ _ _; rw [hwd, hgy]; exact Ob.lit wc [] #[] rfl BT.out.size 0 rfl (by decide)
    have XB2 : Hid (wd.heap[g8]? = some (.cells #[.int .i64 0, .slice none 0 0] 25 (0, 0))) := by show _ = _; rw [hwd, (((Below.refl wc.heap.size wc).alloc (Nat.le_refl _) _).block g8 (Array.getElem?_eq_some_iff.1 XB.out).1)]; exact XB.out
    have HNE : Hid (gy ≠ g8) := by show gy ≠ g8; have := (Array.getElem?_eq_some_iff.1 XB.out).1; omega
    rw [← hwd, ← hgy]
    refine hK.out _ _ BU.out (fun hHeld => ?_)
    try simp only [Act.put]
    try simp only [List.setIfInBounds_toArray]
    try simp only [List.set_cons_succ]
    try simp only [List.set_cons_zero]
    clear hK K hHeld hwd hgy BT XB
    have BT := BU
    clear BU
    have XB := XB2
    clear XB2
    obtain ⟨wc, rfl⟩ : ∃ wc, wc = wd := ⟨_, rfl⟩
    refine wpAnyH_ready (rs := [9]) (by kernel_rfl) (by simp) ?_
    refine AllReadyH.cons rfl (fun K hK => ?_) AllReadyH.nil
    refine step_appG (by rfl) (.tmp 38) (.tmp 42) 23 (by rfl) w1.heap.size 5 Tryd.underlying23 info_u8 (.slice (some ⟨gy, 0, none⟩) 0 0) [] (by rfl) OD.out _ A3 M c3 dd (by rfl) (R3.out _ BT.out) (by have := HM.out; simp only [List.length_nil]; omega) BT.out.size ?_
    intro v9 w9 ho9 hg9
    have B9 : Hid (Below w1.heap.size w1 w9) := grown_trans hg9 OD.out BT.out
    rw [List.nil_append] at ho9
    obtain ⟨A8, c8, rfl, -, -, -⟩ := ho9.rd
    rw [HDL.out] at ho9
    rw [HDL.out]
    have O9 := Lib.hid ho9
    have XB2 : Hid (w9.heap[g8]? = some (.cells #[.int .i64 0, .slice none 0 0] 25 (0, 0))) := (hg9.block g8 (Array.getElem?_eq_some_iff.1 XB.out).1 (fun e => by injection e with e; exact HNE.out e.symm)).trans XB.out
    have HNO : Hid ((Value.slice A8 M c8).ownBlock ≠ some g8) := O9.out.not_at14 XB2.out (by decide)
    clear ho9 hg9 OD BT XB
    show K (Act.put _ (some 43) (.slice A8 M c8)) w9
    refine hK.out _ _ B9.out (fun hHeld => ?_)
    try simp only [Act.put]
    try simp only [List.setIfInBounds_toArray]
    try simp only [List.set_cons_succ]
    try simp only [List.set_cons_zero]
    clear hK K
    refine takeR (i := 10) (v := ?v10_11) rfl (by kernel_rfl) (by kernel_rfl) (by kernel_rfl) (fun _ _ _ h => h) (by rfl) ?hy10_11 (by assumption) ?rest10_11
    case hy10_11 => (intro W hSw; go_simp; try with_reducible rfl)
    try simp only [Act.put]
    try simp only [List.setIfInBounds_toArray]
    try simp only [List.set_cons_succ]
    try simp only [List.set_cons_zero]
    clear hHeld
    have BT := B9
    clear B9
    have XB := XB2
    clear XB2
    obtain ⟨wc, rfl⟩ : ∃ wc, wc = w9 := ⟨_, rfl⟩
    refine wpAnyH_ready (rs := [12]) (by kernel_rfl) (by simp) ?_
    refine AllReadyH.cons rfl (fun K hK => ?_) AllReadyH.nil
    refine step_st2 (by rfl) 25 (.tmp 8) (.tmp 44) (by rfl) g8 (.int .i64 (X.toNat : Int)) (.slice A8 M c8) (by rfl) (by rfl) 25 _ XB.out (by rfl) (by rfl) (by rfl) ?_
    intro W9 hx9 hb9 hs9 ho9
    have B9 : Hid (Below w1.heap.size w1 W9) := hb9 _ _ BT.out HG8.out
    have E9 : Hid (W9.heap[g8]? = some (.cells #[.int .i64 (X.toNat : Int), .slice A8 M c8] 25 (0, 0)) ∧ Ob W9 w1.heap.size 5 (.slice A8 M c8) dd) := ⟨hx9, O9.out.far14 HNO.out ho9⟩
    clear hx9 hb9 hs9 ho9
    show K (Act.put _ none undef) W9
    refine hK.out _ _ B9.out (fun hHeld => ?_)
    try simp only [Act.put]
    try simp only [List.setIfInBounds_toArray]
    try simp only [List.set_cons_succ]
    try simp only [List.set_cons_zero]
    clear hK K hHeld
    refine wpAnyH_done (by kernel_rfl) ?_ _
    go_wp2_with fail
    go_meet
    case rel => exact ⟨g8, A8, c8, rfl, HG8.out, E9.out.1, E9.out.2, B9.out⟩
  case rest =>
    obtain ⟨w3, rfl⟩ : ∃ w3, w3 = wc := ⟨_, rfl⟩
    obtain ⟨g8, A8, c8, rfl, hg8, hx8, ho8, hb3⟩ := hcut.out
    clear hcut
    have HG8 := Lib.hid hg8
    have HX8 := Lib.hid hx8
    have O8 := Lib.hid ho8
    have B3 := Lib.hid hb3
    have hr8 := ho8.rd_
    obtain ⟨⟨x0, x1⟩, -, -⟩ := row2 hx8
    have HOK : Hid (rokR ⟨(X.toNat : Int), dd⟩ = true) := by
      refine rokR_iff.2 ⟨?_, ?_, ?_⟩
      · show 1 ≤ (X.toNat : Int)
        rw [beq_eq_false_iff_ne] at hzi
        omega
      · show (X.toNat : Int) ≤ 255
        have := X.toNat_lt
        omega
      · show dd.length ≤ 8192
        rw [HDL.out]
        exact HM.out
    have CF := Lib.hid (rframe_any salt (X.toNat : Int) A8 M c8 w3.heap.size dd w3 hsl hr8.2.1 (Nat.le_refl _))
    unfold recV FrmR at CF
    rw [HOK.out, if_pos rfl, if_pos rfl] at CF
    clear hg8 hx8 ho8 hb3 hr8 cut3 HQ R3 q2
    go_wp2_with fail
    refine CF.out.mono ?_
    rintro e w4 ⟨hb4, v, z, rfl, rfl, ho4⟩
    obtain ⟨A5, c5, rfl, -, -, hr5⟩ := ho4.rd
    have hl5 : (frameR salt ⟨(X.toNat : Int), dd⟩).length = M + 7 := by rw [frameR_len]; show dd.length + 7 = _; rw [HDL.out]
    rw [hl5] at hr5
    rw [hl5]
    have B4 : Hid (Below w1.heap.size w1 w4) := B3.out.trans (hb4.mono B3.out.size)
    have HX4 : Hid (w4.heap[g8]? = some (.cells #[.int .i64 (X.toNat : Int), .slice A8 M c8] 25 (0, 0))) := (hb4.block g8 (Array.getElem?_eq_some_iff.1 HX8.out).1).trans HX8.out
    have O4 : Hid (Ob w4 w1.heap.size 5 (.slice A8 M c8) dd) := O8.out.below hb4
    obtain ⟨⟨y0, y1⟩, -, -⟩ := row2 HX4.out
    have HZ4 : Hid (w4.heap[w.heap.size]? = some (.cells #[.int .i64 0, .slice none 0 0] 25 (0, 0))) := (B4.out.block _ HG0.out).trans HZ0.out
    obtain ⟨⟨z0, z1⟩, f0, f1⟩ := row2 HZ4.out
    have CS := Lib.hid (same_any A5 A4 (M + 7) c5 (M + 7) c4 w4.heap.size B (frameR salt ⟨(X.toNat : Int), dd⟩) (l.take (M + 7)) w4 hr5 (R4.out w4 B4.out))
    have BW : Hid (Below w.heap.size w w4) := HB.out.trans (B4.out.mono HB.out.size)
    clear ho4 hr5 hb4 hl5 x0 x1 CF
    by_cases hf : frameR salt ⟨(X.toNat : Int), dd⟩ = l.take (M + 7)
    · rw [if_pos hf] at HNX
      rw [show (frameR salt ⟨(X.toNat : Int), dd⟩ == l.take (M + 7)) = true by rw [hf]; exact beq_self_eq_true _] at CS
      clear hf
      go_wp2_with fail
      refine CS.out.mono ?_
      rintro e w5 ⟨rfl, rfl⟩
      clear CS
      go_wp2_with fail
      refine bodyPost_ret (v := .tuple #[.agg #[.int .i64 (X.toNat : Int), .slice A8 M c8], .int .i64 ((M : Int) + 7), .int .i64 0]) (by simp [results, Tryd.results14, go_sem, z0, z1]) rfl ⟨below_put2 BW.out (Nat.le_refl _), A8, M, c8, ?_, ?_⟩
      · rw [HNX.out]; rfl
      · rw [HNX.out]
        refine ((O4.out.wide HB.out.size).far14 (g := w.heap.size) (fun e => ?_) (fun j hj => ?_))
        · have := (World.ownsRow.lt O4.out _ e).1; have := HG0.out; omega
        · rw [heap_setCell_other _ _ _ _ hj, heap_setCell_other _ _ _ _ hj]
    · rw [if_neg hf] at HNX
      rw [show (frameR salt ⟨(X.toNat : Int), dd⟩ == l.take (M + 7)) = false from beq_eq_false_iff_ne.2 hf] at CS
      clear hf
      go_wp2_with fail
      refine CS.out.mono ?_
      rintro e w5 ⟨rfl, rfl⟩
      clear CS
      go_wp2_with fail
      exact bodyPost_ret (v := .tuple #[.agg #[.int .i64 0, .slice none 0 0], .int .i64 0, .int .i64 140]) (by simp [results, Tryd.results14, go_sem, z0, z1]) rfl (nexR_no HNX.out (by first | exact BW.out | exact below_put2 BW.out (Nat.le_refl _)) rfl)

/-- Next, of any bytes. -/
theorem rnext_any (salt : Nat) (A : Option Addr) (n c B : Nat) (l : List UInt8) (w : World) (hsl : salt < 18446744073709551616) (h : Rd w B A n l) (hB : B ≤ w.heap.size) (hn : n ≤ 140737488355328) (hc : n ≤ c) :
    Calls Tryd.prog 14 #[.int .u64 (salt : Int), .slice A n c] w (NexR salt l w) := by
  by_cases h3 : n < 3
  · exact rnext_few salt A n c B l w h h3
  by_cases hz : l.getD 2 0 = 0
  · exact rnext_no salt A n c B l w h hB hn hc h3 (.inl hz)
  by_cases hm : 8192 < lenR l
  · exact rnext_no salt A n c B l w h hB hn hc h3 (.inr (.inl hm))
  by_cases hs : n < lenR l + 7
  · exact rnext_no salt A n c B l w h hB hn hc h3 (.inr (.inr hs))
  exact rnext_may salt A n c B l w hsl h hB hn hc hz hm hs
end Go.Proofs.YtlkppnghfgiapaaDoor
