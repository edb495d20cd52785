/- Layer 9's code: pieces put behind a plaintext by a function made for it (encoded, putter, putUints). (Made by gen/bun.py.) -/
import Derived.Test.YtlecbblmaadpiaaGreatDoorJBlkE
import Derived.Test.YtlecbblmaadpiaaGreatDoorJBlkF2
import Derived.Test.YtlecbblmaadpiaaGreatDoorJBlkW2
import Derived.Test.YtlecbblmaadpiaaGreatDoorJBunW6
import Derived.Test.YtlecbblmaadpiaaGreatDoorJIpX
import Derived.Test.YtlecbblmaadpiaaGreatDoorJRfC
namespace Go.Proofs.YtlecbblmaadpiaaGreatDoor
open Go.RowKit
set_option maxRecDepth 100000 in
set_option maxHeartbeats 1000000 in
theorem encoded_any (x : Itm) (v : Value) (w : World) (B : Nat) (hf : Fits x) (hlen : (wri x).length ≤ 140737488355328) (hB : B ≤ w.heap.size) (h : RdI w B v x) :
    Calls Tryz.prog 109 #[v] w (GivesO 5 (wri x) w) := by
  obtain ⟨k1, n1, A1, nd1, cd1, AL1, nl1, cl1, rfl⟩ := h.form
  have C := Lib.hid (fun (W : World) (hb : Below w.heap.size w W) => cencodeO_any x _ W W.heap.size hf hlen (Nat.le_refl _) ((h.below (hb.mono hB)).more (Nat.le_trans hB hb.size)))
  have HB0 := Lib.hid ((Below.refl w.heap.size w).alloc (Nat.le_refl _) (.cells #[.int .i64 k1, .int .u64 (n1 : Int), .slice A1 nd1 cd1, .slice AL1 nl1 cl1] 30))
  clear h hf hlen hB
  generalize wri x = L at *
  go_enter Tryz.func109, Tryz.ntmps109
  go_wp2_with fail
  refine (C.out _ HB0.out).mono ?_
  rintro e w1 ⟨v', rfl, ho, hb⟩
  have HO := Lib.hid (ho.weak (le_alloc w _))
  have B1 := Lib.hid (HB0.out.trans (hb.mono (le_alloc w _)))
  clear ho hb
  go_wp2_with fail
  go_ret
  exact ⟨_, rfl, HO.out, B1.out⟩
structure PtSt (w : World) (base g0 gp gs : Nat) (sc : Int) (v : Value) (l : List UInt8) : Prop where
  h0 : w.heap[g0]? = some (.cells #[v] 27 (0, 0))
  hp : w.cell? ⟨gp, 0, none⟩ = some (.pointer (some ⟨g0, 0, none⟩))
  hs : w.cell? ⟨gs, 0, none⟩ = some (.int .i64 sc)
  ob : Ob w base 5 v l
  np : gp ≠ g0
  ns : gs ≠ g0
  l0 : g0 < base
  lp : gp < base
  ls : gs < base
  lb : base ≤ w.heap.size
structure PtRun (g0 : Nat) (v : Value) (w : World) (v' : Value) (w' : World) : Prop where
  os : w'.os = w.os
  tape : w'.tape = w.tape
  output : w'.output = w.output
  size : w.heap.size ≤ w'.heap.size
  keep : ∀ k, k < w.heap.size → k ≠ g0 → v.ownBlock ≠ some k → w'.heap[k]? = w.heap[k]?
  own : v'.ownBlock = v.ownBlock ∨ ∃ k, v'.ownBlock = some k ∧ w.heap.size ≤ k
section
variable {w w1 w2 : World} {base g0 gp gs : Nat} {sc : Int} {v v1 v2 : Value} {l : List UInt8}
theorem PtRun.refl (g0 : Nat) (v : Value) (w : World) : PtRun g0 v w v w := ⟨rfl, rfl, rfl, Nat.le_refl _, fun _ _ _ _ => rfl, .inl rfl⟩
theorem PtRun.trans (h : PtRun g0 v w v1 w1) (k : PtRun g0 v1 w1 v2 w2) : PtRun g0 v w v2 w2 := by
  refine ⟨k.os.trans h.os, k.tape.trans h.tape, k.output.trans h.output, Nat.le_trans h.size k.size, fun i hi h0 hne => ?_, ?_⟩
  · refine (k.keep i (Nat.lt_of_lt_of_le hi h.size) h0 (fun e => ?_)).trans (h.keep i hi h0 hne)
    rcases h.own with ho | ⟨q, ho, hq⟩
    · exact hne (ho.symm.trans e)
    · rw [ho] at e; injection e with e; omega
  · rcases k.own with ko | ⟨q, ko, hq⟩
    · rcases h.own with ho | ⟨q, ho, hq⟩
      · exact .inl (ko.trans ho)
      · exact .inr ⟨q, ko.trans ho, hq⟩
    · exact .inr ⟨q, ko, Nat.le_trans h.size hq⟩
theorem PtRun.quiet (h : PtRun g0 v w v1 w1) (hb : Below w1.heap.size w1 w2) : PtRun g0 v w v1 w2 :=
  h.trans ⟨hb.os, hb.tape, hb.output, hb.size, fun k hk _ _ => hb.block k hk, .inl rfl⟩
theorem PtSt.quiet (h : PtSt w base g0 gp gs sc v l) (hb : Below w.heap.size w w1) : PtSt w1 base g0 gp gs sc v l :=
  ⟨(hb.block g0 (Nat.lt_of_lt_of_le h.l0 h.lb)).trans h.h0, (hb.cell (p := ⟨gp, 0, none⟩) (Nat.lt_of_lt_of_le h.lp h.lb)).trans h.hp, (hb.cell (p := ⟨gs, 0, none⟩) (Nat.lt_of_lt_of_le h.ls h.lb)).trans h.hs, h.ob.below hb, h.np, h.ns, h.l0, h.lp, h.ls, Nat.le_trans h.lb hb.size⟩
theorem PtRun.below (h : PtRun g0 v w v1 w1) (hs : PtSt w base g0 gp gs sc v l) {b : Nat} (hb : b ≤ g0) : Below b w w1 :=
  ⟨h.os, h.tape, h.output, h.size, fun k hk => h.keep k (by have := hs.l0; have := hs.lb; omega) (by omega) (fun e => by have := (World.ownsRow.lt hs.ob k e).1; have := hs.l0; omega)⟩
def PtOff (w : World) (g0 : Nat) (v : Value) (b : Nat) : Prop := b < w.heap.size ∧ b ≠ g0 ∧ v.ownBlock ≠ some b
theorem PtOff.run {b : Nat} (hb : PtOff w g0 v b) (h : PtRun g0 v w v1 w1) : PtOff w1 g0 v1 b :=
  ⟨Nat.lt_of_lt_of_le hb.1 h.size, hb.2.1, fun e => by
    rcases h.own with ho | ⟨q, ho, hq⟩
    · exact hb.2.2 (ho.symm.trans e)
    · rw [ho] at e; injection e with e; have := hb.1; omega⟩
theorem PtOff.cell {b j : Nat} (hb : PtOff w g0 v b) (h : PtRun g0 v w v1 w1) : w1.cell? ⟨b, j, none⟩ = w.cell? ⟨b, j, none⟩ :=
  World.cell?_of_block (a := ⟨b, j, none⟩) (h.keep b hb.1 hb.2.1 hb.2.2)
theorem PtOff.quiet {b : Nat} (hb : PtOff w g0 v b) (h : Below w.heap.size w w1) : PtOff w1 g0 v b := ⟨Nat.lt_of_lt_of_le hb.1 h.size, hb.2⟩
theorem PtOff.new (hs : PtSt w base g0 gp gs sc v l) {b : Nat} (hb : w.heap.size ≤ b) (hb1 : b < w1.heap.size) : PtOff w1 g0 v b :=
  ⟨hb1, by have := hs.l0; have := hs.lb; omega, fun e => by have := (World.ownsRow.lt hs.ob b e).2; omega⟩
theorem PtOff.old (hs : PtSt w base g0 gp gs sc v l) {b : Nat} (hb : b < g0) : PtOff w g0 v b :=
  ⟨by have := hs.l0; have := hs.lb; omega, by omega, fun e => by have := (World.ownsRow.lt hs.ob b e).1; have := hs.l0; omega⟩
def RdOff (w : World) (g0 : Nat) (v : Value) (A : Option Addr) (n : Nat) (m : List UInt8) : Prop := Rd w w.heap.size A n m ∧ (0 < n → ∀ b o, A = some ⟨b, o, none⟩ → PtOff w g0 v b)
theorem RdOff.run {A : Option Addr} {n : Nat} {m : List UInt8} (hr : RdOff w g0 v A n m) (h : PtRun g0 v w v1 w1) : RdOff w1 g0 v1 A n m := by
  refine ⟨⟨hr.1.1, fun hn => ?_⟩, fun hn b o e => (hr.2 hn b o e).run h⟩
  obtain ⟨b, o, e, hb, hc⟩ := hr.1.2 hn
  exact ⟨b, o, e, Nat.lt_of_lt_of_le hb h.size, fun i hi => ((hr.2 hn b o e).cell h).trans (hc i hi)⟩
theorem RdOff.quiet {A : Option Addr} {n : Nat} {m : List UInt8} (hr : RdOff w g0 v A n m) (h : Below w.heap.size w w1) : RdOff w1 g0 v A n m := hr.run ((PtRun.refl g0 v w).quiet h)
theorem RdOff.old {A : Option Addr} {n : Nat} {m : List UInt8} (hs : PtSt w base g0 gp gs sc v l) (h : Rd w g0 A n m) : RdOff w g0 v A n m :=
  ⟨h.more (by have := hs.l0; have := hs.lb; omega), fun hn b o e => by
    obtain ⟨b', o', e', hb, -⟩ := h.2 hn
    rw [e] at e'
    injection e' with e'
    injection e' with e1 e2
    exact PtOff.old hs (by omega)⟩
theorem RdOff.new {m : List UInt8} {vb : Value} (hs : PtSt w base g0 gp gs sc v l) (ho : Ob w1 w.heap.size 5 vb m) : ∃ (A : Option Addr) (c : Nat), vb = .slice A m.length c ∧ m.length ≤ c ∧ RdOff w1 g0 v A m.length m := by
  obtain ⟨A, c, rfl, hc, -, hr⟩ := ho.rd
  refine ⟨A, c, rfl, hc, hr, fun hn b o e => ?_⟩
  obtain ⟨g, cap, hv, hg, hg2, -⟩ := ho.form hn
  injection hv with hv
  rw [e] at hv
  injection hv with hv
  injection hv with e1 e2
  subst e1
  exact PtOff.new hs hg hg2
end
def putV (gs gp : Nat) : Value := .func (.func 148) #[] #[.pointer (some ⟨gs, 0, none⟩), .pointer (some ⟨gp, 0, none⟩)]
set_option maxRecDepth 100000 in
set_option maxHeartbeats 2000000 in
theorem iput_any (part : Int) (R : Bool) (A : Option Addr) (n c : Nat) (m : List UInt8) (w : World) (base g0 gp gs : Nat) (sc : Int) (v : Value) (l : List UInt8)
    (hb : (bits BinOp.and IntKind.i64 sc part == part) = R) (hP : PtSt w base g0 gp gs sc v l) (hr : RdOff w g0 v A n m) (hlen : l.length + n ≤ 140737488355328) :
    Calls Tryz.prog 148 #[.int .i64 part, .slice A n c, .pointer (some ⟨gs, 0, none⟩), .pointer (some ⟨gp, 0, none⟩)] w fun e w' => e = .returned (.tuple #[]) ∧ ∃ v', PtSt w' base g0 gp gs sc v' (if R = true then l ++ m else l) ∧ PtRun g0 v w v' w' := by
  have hs := hP.hs
  have hp := hP.hp
  have HP := Lib.hid hP
  have HR := Lib.hid hr
  have HL := Lib.hid hlen
  clear hP hr hlen
  cases R with
  | false =>
    go_enter Tryz.func148, Tryz.ntmps148
    go_wp2_with fail
    go_end0
    exact ⟨rfl, v, HP.out, PtRun.refl _ _ _⟩
  | true =>
    have h0 : w.cell? ⟨g0, 0, none⟩ = some v := cell_row HP.out.h0 0 rfl
    go_enter Tryz.func148, Tryz.ntmps148
    go_wp2_with fail
    have hf : w.heap[g0]? = some (.cells #[v] 27 (0, 0)) := HP.out.h0
    refine wp_region_held_drew (S := fun W => W.cell? ⟨gp, 0, none⟩ = some (.pointer (some ⟨g0, 0, none⟩))) (by kernel_rfl) hp (fun hHeld => ?_)
    clear hs
    refine takeR (i := 0) (v := ?v0) rfl (by kernel_rfl) (by kernel_rfl) (by kernel_rfl) (fun _ _ _ h => h) (by rfl) ?hy0 (by assumption) ?rest0
    case hy0 => (intro W hSw; go_simp; try with_reducible rfl)
    try simp only [Act.put]
    try simp only [List.setIfInBounds_toArray]
    try simp only [List.set_cons_succ]
    try simp only [List.set_cons_zero]
    refine takeR (i := 1) (v := ?v1) rfl (by kernel_rfl) (by kernel_rfl) (by kernel_rfl) (fun _ _ _ h => h) (by rfl) ?hy1 (by assumption) ?rest1
    case hy1 => (intro W hSw; go_simp; try with_reducible rfl)
    try simp only [Act.put]
    try simp only [List.setIfInBounds_toArray]
    try simp only [List.set_cons_succ]
    try simp only [List.set_cons_zero]
    refine takeR (i := 2) (v := ?v2) rfl (by kernel_rfl) (by kernel_rfl) (by kernel_rfl) (fun _ _ _ h => h) (by rfl) ?hy2 (by assumption) ?rest2
    case hy2 => (intro W hSw; go_simp; try with_reducible rfl)
    try simp only [Act.put]
    try simp only [List.setIfInBounds_toArray]
    try simp only [List.set_cons_succ]
    try simp only [List.set_cons_zero]
    refine takeR (i := 4) (v := ?v4) rfl (by kernel_rfl) (by kernel_rfl) (by kernel_rfl) (fun _ _ _ h => h) (by rfl) ?hy4 (by assumption) ?rest4
    case hy4 => (intro W hSw; go_simp; try with_reducible rfl)
    try simp only [Act.put]
    try simp only [List.setIfInBounds_toArray]
    try simp only [List.set_cons_succ]
    try simp only [List.set_cons_zero]
    refine wpAnyH_ready (rs := [3]) (by kernel_rfl) (by simp) ?_
    refine AllReadyH.cons rfl (fun K hK => ?_) AllReadyH.nil
    have h0d : w.drew.cell? ⟨g0, 0, none⟩ = some v := h0
    go_simp
    refine hK.out _ _ hp (fun hHeld => ?_)
    try simp only [Act.put]
    try simp only [List.setIfInBounds_toArray]
    try simp only [List.set_cons_succ]
    try simp only [List.set_cons_zero]
    clear hK K h0d
    refine wpAnyH_ready (rs := [5]) (by kernel_rfl) (by simp) ?_
    refine AllReadyH.cons rfl (fun K hK => ?_) AllReadyH.nil
    refine step_appR (by rfl) (.tmp 14) (.tmp 15) 27 (by rfl) base 5 Tryz.underlying27 info_u8 v l (by rfl) HP.out.ob.drew w.heap.size A n c m (by rfl) HR.out.1.drew HL.out HP.out.lb ?_
    intro v2 w2 ho2 hr2
    obtain ⟨A2, c2, rfl, -, -, -⟩ := ho2.rd
    have HO2 := Lib.hid ho2
    have R2 := Lib.hid hr2
    have HL2 : Hid ((l ++ m).length = l.length + m.length) := List.length_append
    generalize (l ++ m).length = N2 at *
    have hne0 : v.ownBlock ≠ some g0 := fun e => by have := (World.ownsRow.lt HP.out.ob g0 e).1; have := HP.out.l0; omega
    have hnep : v.ownBlock ≠ some gp := fun e => by have := (World.ownsRow.lt HP.out.ob gp e).1; have := HP.out.lp; omega
    have k0 : w2.heap[g0]? = some (.cells #[v] 27 (0, 0)) := (hr2.grown.block g0 (Nat.lt_of_lt_of_le HP.out.l0 HP.out.lb) (fun e => hne0 e.symm)).trans hf
    have K0 := Lib.hid k0
    have c0 : w2.cell? ⟨g0, 0, none⟩ = some v := cell_row k0 0 rfl
    have f0 : w2.frozen? ⟨g0, 0, none⟩ = false := row_free k0 0
    have cp : w2.cell? ⟨gp, 0, none⟩ = some (.pointer (some ⟨g0, 0, none⟩)) := (hr2.cell (p := ⟨gp, 0, none⟩) (Nat.lt_of_lt_of_le HP.out.lp HP.out.lb) hnep).trans HP.out.hp
    clear ho2 hr2 k0 hHeld hne0 hnep
    refine hK.out _ _ cp (fun hHeld => ?_)
    try simp only [Act.put]
    try simp only [List.setIfInBounds_toArray]
    try simp only [List.set_cons_succ]
    try simp only [List.set_cons_zero]
    clear hK K
    refine takeR (i := 6) (v := ?v6) rfl (by kernel_rfl) (by kernel_rfl) (by kernel_rfl) (fun _ _ _ h => h) (by rfl) ?hy6 (by assumption) ?rest6
    case hy6 => (intro W hSw; go_simp; try with_reducible rfl)
    try simp only [Act.put]
    try simp only [List.setIfInBounds_toArray]
    try simp only [List.set_cons_succ]
    try simp only [List.set_cons_zero]
    refine wpAnyH_ready (rs := [7]) (by kernel_rfl) (by simp) ?_
    refine AllReadyH.cons rfl (fun K hK => ?_) AllReadyH.nil
    rw [if_pos (by rfl)]
    go_simp
    have cp2 : (w2.setCell ⟨g0, 0, none⟩ (.slice A2 N2 c2)).cell? ⟨gp, 0, none⟩ = some (.pointer (some ⟨g0, 0, none⟩)) := (World.cell?_setCell_far _ _ _ _ (fun e => HP.out.np e.symm)).trans cp
    have HF : Hid (PtSt (w2.setCell ⟨g0, 0, none⟩ (.slice A2 N2 c2)) base g0 gp gs sc (.slice A2 N2 c2) (l ++ m) ∧ PtRun g0 v w (.slice A2 N2 c2) (w2.setCell ⟨g0, 0, none⟩ (.slice A2 N2 c2))) := by
      have hfar : ∀ k, k ≠ g0 → (w2.setCell ⟨g0, 0, none⟩ (.slice A2 N2 c2)).heap[k]? = w2.heap[k]? := fun k hk => Deep.blk_setCell_other _ _ _ _ hk
      have hsz : (w2.setCell ⟨g0, 0, none⟩ (.slice A2 N2 c2)).heap.size = w2.heap.size := Deep.nblk_setCell _ _ _
      have hlb := HP.out.lb
      have hl0 := HP.out.l0
      have hls := HP.out.ls
      have hsw : w.heap.size ≤ w2.heap.size := R2.out.grown.size
      have hnes : v.ownBlock ≠ some gs := fun e => by have := (World.ownsRow.lt HP.out.ob gs e).1; omega
      refine ⟨⟨?_, cp2, ?_, ?_, HP.out.np, HP.out.ns, hl0, HP.out.lp, hls, by rw [hsz]; omega⟩, ⟨R2.out.grown.os, R2.out.grown.tape, R2.out.grown.output, by rw [hsz]; exact hsw, fun k hk hk0 hne => (hfar k hk0).trans (R2.out.grown.block k hk (fun e => hne e.symm)), R2.out.own⟩⟩
      · rw [setCell_eq_setRow w2 g0 0 #[v] 27 (0, 0) _ K0.out]
        exact setRow_heap w2 g0 _ _ 27 _ K0.out
      · exact (World.cell?_setCell_far _ _ _ _ (fun e => HP.out.ns e.symm)).trans ((R2.out.cell (p := ⟨gs, 0, none⟩) (by show gs < w.heap.size; omega) hnes).trans HP.out.hs)
      · refine HO2.out.kept (row := some g0) ⟨rfl, rfl, rfl, by rw [hsz]; exact Nat.le_refl _, fun k _ hne => hfar k (fun e => hne (by rw [e]))⟩ (.inr fun e => ?_)
        have := (World.ownsRow.lt HO2.out g0 e).1
        omega
    refine hK.out _ _ cp2 (fun hHeld => ?_)
    try simp only [Act.put]
    try simp only [List.setIfInBounds_toArray]
    try simp only [List.set_cons_succ]
    try simp only [List.set_cons_zero]
    clear hK K
    refine wpAnyH_done (by kernel_rfl) ?_ _
    go_wp2_with fail
    go_end0
    exact ⟨rfl, _, HF.out.1, HF.out.2⟩
end Go.Proofs.YtlecbblmaadpiaaGreatDoor
/- Layer 9's code: putter, putUints. (Made by gen/bun.py.) -/
namespace Go.Proofs.YtlecbblmaadpiaaGreatDoor
open Go.RowKit
theorem PtSt.start (w : World) (g0 : Nat) (sc : Int) (hg : g0 < w.heap.size) (h0 : w.heap[g0]? = some (.cells #[.slice none 0 0] 27 (0, 0))) :
    PtSt ((w.alloc (.cells #[.pointer (some ⟨g0, 0, none⟩)] 139)).alloc (.cells #[.int .i64 sc] 3)) (w.heap.size + 2) g0 w.heap.size (w.heap.size + 1) sc (.slice none 0 0) [] := by
  have b1 : Below (w.heap.size + 1) (w.alloc (.cells #[.pointer (some ⟨g0, 0, none⟩)] 139)) ((w.alloc (.cells #[.pointer (some ⟨g0, 0, none⟩)] 139)).alloc (.cells #[.int .i64 sc] 3)) := (Below.refl _ _).alloc (by simp) _
  have b0 : Below w.heap.size w ((w.alloc (.cells #[.pointer (some ⟨g0, 0, none⟩)] 139)).alloc (.cells #[.int .i64 sc] 3)) := ((Below.refl _ _).alloc (Nat.le_refl _) _).alloc (le_alloc _ _) _
  have hs1 : (w.alloc (.cells #[.pointer (some ⟨g0, 0, none⟩)] 139)).heap.size = w.heap.size + 1 := by simp
  have h2 := cell_row (W := (w.alloc (.cells #[.pointer (some ⟨g0, 0, none⟩)] 139)).alloc (.cells #[.int .i64 sc] 3)) (row_of_box (w := w.alloc (.cells #[.pointer (some ⟨g0, 0, none⟩)] 139)) rfl (Below.refl _ _)) 0 rfl
  rw [hs1] at h2
  exact ⟨(b0.block g0 hg).trans h0, cell_row (row_of_box rfl b1) 0 rfl, h2, Ob.nil_ _ _ _, by omega, by omega, by omega, by omega, by omega, by simp⟩
set_option maxRecDepth 100000 in
set_option maxHeartbeats 1000000 in
theorem putter_any (g0 : Nat) (sc : Int) (w : World) (hg : g0 < w.heap.size) (h0 : w.heap[g0]? = some (.cells #[.slice none 0 0] 27 (0, 0))) :
    Calls Tryz.prog 106 #[.pointer (some ⟨g0, 0, none⟩), .int .i64 sc] w fun e w' => ∃ gp gs base, e = .returned (putV gs gp) ∧ PtSt w' base g0 gp gs sc (.slice none 0 0) [] ∧ Below w.heap.size w w' := by
  have HP := Lib.hid (PtSt.start w g0 sc hg h0)
  have HB : Hid (Below w.heap.size w ((w.alloc (.cells #[.pointer (some ⟨g0, 0, none⟩)] 139)).alloc (.cells #[.int .i64 sc] 3))) := ((Below.refl _ _).alloc (Nat.le_refl _) _).alloc (le_alloc _ _) _
  clear h0
  go_enter Tryz.func106, Tryz.ntmps106
  go_wp2_with fail
  go_ret
  exact ⟨_, _, _, rfl, HP.out, HB.out⟩
def hds (ns : List Nat) : List UInt8 := ns.flatMap (hd 0)
theorem hds_take (ns : List Nat) (i : Nat) (hi : i < ns.length) : hds (ns.take (i + 1)) = hds (ns.take i) ++ hd 0 (ns[i]'hi) := by
  unfold hds
  rw [List.take_add_one, List.getElem?_eq_getElem hi, List.flatMap_append]
  simp only [Option.toList, List.flatMap_cons, List.flatMap_nil, List.append_nil]
theorem hds_len (ns : List Nat) : (hds ns).length ≤ 9 * ns.length := by
  unfold hds
  induction ns with
  | nil => simp
  | cons a r ih =>
    rw [List.flatMap_cons, List.length_append, List.length_cons, hd_len]
    have := hsz_le a
    omega
set_option maxRecDepth 100000 in
set_option maxHeartbeats 4000000 in
theorem iputs_any (part : Int) (R : Bool) (ns : List Nat) (gl N : Nat) (w : World) (base g0 gp gs : Nat) (sc : Int) (v : Value) (l : List UInt8)
    (hb : (bits BinOp.and IntKind.i64 sc part == part) = R) (hP : PtSt w base g0 gp gs sc v l) (hrow : RowAt w gl (ns.map fun (x : Nat) => Value.int .u64 (x : Int))) (hoff : PtOff w g0 v gl) (hN : ns.length = N) (hN5 : N ≤ 5) (hlen : l.length ≤ 100000) (hns : ∀ x ∈ ns, x < 18446744073709551616) :
    Calls Tryz.prog 107 #[putV gs gp, .int .i64 part, .slice (some ⟨gl, 0, none⟩) N N] w fun e w' => e = .returned (.tuple #[]) ∧ ∃ v', PtSt w' base g0 gp gs sc v' (if R = true then l ++ hds ns else l) ∧ PtRun g0 v w v' w' := by
  obtain ⟨LF, hLF⟩ : ∃ LF, LF = (if R = true then l ++ hds ns else l) := ⟨_, rfl⟩
  rw [← hLF]
  have HLF := Lib.hid hLF
  have HP := Lib.hid hP
  have HRW := Lib.hid hrow
  have HOF := Lib.hid hoff
  have HN := Lib.hid hN
  have HL := Lib.hid hlen
  have HNS := Lib.hid hns
  have CU := Lib.hid (fun (n : Nat) (W : World) (h : n < 18446744073709551616) => cuint_any n W h)
  have CE := Lib.hid (fun (n : Nat) (x : Value) (W : World) (h : n < 18446744073709551616) (hr : RdI W W.heap.size x (.mk 0 n [] [])) => encoded_any (.mk 0 n [] []) x W W.heap.size (uint_fits n) (by rw [wri_u, hd_len]; have := hsz_le n; omega) (Nat.le_refl _) hr)
  have CPT := Lib.hid (fun (A : Option Addr) (n c : Nat) (m : List UInt8) (W : World) (v1 : Value) (l1 : List UInt8) (hP : PtSt W base g0 gp gs sc v1 l1) (hr : RdOff W g0 v1 A n m) (hlen : l1.length + n ≤ 140737488355328) => iput_any part R A n c m W base g0 gp gs sc v1 l1 hb hP hr hlen)
  clear hb hP hrow hoff hN hlen hns hLF
  unfold putV at *
  go_enter Tryz.func107, Tryz.ntmps107
  go_wp2_with fail
  go_loopw [7, 10] (fun _ iv wr => ∃ (i : Nat) (v1 : Value), i ≤ N ∧ iv = .int .i64 (i : Int) ∧ Hid (PtSt wr base g0 gp gs sc v1 (if R = true then l ++ hds (ns.take i) else l)) ∧ Hid (PtRun g0 v w v1 wr)) (fun _ iv _ => N - (intOf iv).toNat)
  case atStart => exact ⟨0, v, Nat.zero_le _, rfl, by show PtSt _ _ _ _ _ _ _ _; simpa [hds] using HP.out, PtRun.refl _ _ _⟩
  case round =>
    obtain ⟨i, v1, hi, rfl, HP1, HR1⟩ := hrel
    by_cases hlt : i < N
    · have hil : i < ns.length := by rw [HN.out]; exact hlt
      have hii : decide ((i : Int) < (N : Int)) = true := decide_eq_true (by omega)
      have hi1 : (i : Int) < (N : Int) := by omega
      have hcell : wr.cell? ⟨gl, i, none⟩ = some (.int .u64 ((ns[i]'hil : Nat) : Int)) := by
        rw [HOF.out.cell HR1.out]
        have := HRW.out.2 i (.int .u64 ((ns[i]'hil : Nat) : Int)) (by rw [List.getElem?_map, List.getElem?_eq_getElem hil]; rfl)
        rw [addr0] at this
        exact this
      have hx : ns[i]'hil < 18446744073709551616 := HNS.out _ (List.getElem_mem hil)
      have HTK := Lib.hid (hds_take ns i hil)
      generalize ns[i]'hil = x at *
      have C1 := Lib.hid (CU.out x wr hx)
      go_wp2_with fail
      refine C1.out.mono ?_
      rintro e w1 ⟨u1, rfl, hu1, hb1⟩
      obtain ⟨k1, n1, A1, nd1, cd1, AL1, nl1, cl1, rfl⟩ := hu1.form
      have U1 := Lib.hid hu1
      have P1 := Lib.hid (HP1.out.quiet hb1)
      have Q1 := Lib.hid (HR1.out.quiet hb1)
      clear hu1 hb1 hcell
      go_wp2_with fail
      refine (CE.out x _ w1 hx U1.out).mono ?_
      rintro e w2 ⟨u2, rfl, ho2, hb2⟩
      obtain ⟨A2, c2, rfl, hc2, hoff2⟩ := RdOff.new P1.out ho2
      have P2 := Lib.hid (P1.out.quiet hb2)
      have Q2 := Lib.hid (Q1.out.quiet hb2)
      have O2 := Lib.hid hoff2
      clear ho2 hb2 hoff2 hc2
      go_wp2_with fail
      refine (CPT.out A2 _ c2 _ w2 v1 _ P2.out O2.out ?_).mono ?_
      · have h1 := hds_len (ns.take i)
        have h2 : (ns.take i).length ≤ N := by rw [List.length_take]; omega
        have h3 := hsz_le x
        have h4 := HL.out
        rw [wri_u, hd_len]
        split
        · rw [List.length_append]; omega
        · omega
      rintro e w3 ⟨rfl, v3, h3, r3⟩
      have P3 : Hid (PtSt w3 base g0 gp gs sc v3 (if R = true then l ++ hds (ns.take (i + 1)) else l)) := by
        have h3' := h3
        rw [wri_u] at h3'
        show PtSt _ _ _ _ _ _ _ _
        rw [HTK.out]
        cases R with
        | false => exact h3'
        | true => simpa using h3'
      have Q3 := Lib.hid (Q2.out.trans r3)
      clear h3 r3
      go_wp2_with fail
      go_roundw
      case rel => exact ⟨i + 1, v3, by omega, by go_num, P3.out, Q3.out⟩
      case measure => simp [intOf]; omega
    · obtain rfl : N = i := by omega
      have hii : decide ((N : Int) < (N : Int)) = false := decide_eq_false (by omega)
      go_wp2_with fail
      go_end0
      refine ⟨rfl, v1, ?_, HR1.out⟩
      have := HP1.out
      rw [List.take_of_length_le (by rw [HN.out]; exact Nat.le_refl _), ← HLF.out] at this
      exact this
end Go.Proofs.YtlecbblmaadpiaaGreatDoor
/- Layer 9's code: targetOf. (Made by gen/bun.py.) -/
namespace Go.Proofs.YtlecbblmaadpiaaGreatDoor
open Go.RowKit
def TgtU (l : List Blk) (q B : Nat) (w : World) (e : Ending) (w' : World) : Prop := Below w.heap.size w w' ∧
  ((∃ (x : Blk) (Ax : Option Addr) (nd cd : Nat), l.find? (pNum q) = some x ∧ x.typ ≠ 11 ∧ x ∈ l ∧ Bd x ∧ (nd ≤ cd ∧ nd ≤ 140737488355328) ∧ Rd w B Ax nd x.dat ∧ e = .returned (.tuple #[blkV x.typ x.num x.flg x.crc Ax nd cd, .bool true])) ∨
   ((∀ x, l.find? (pNum q) = some x → x.typ = 11) ∧ e = .returned (.tuple #[blkV 0 0 0 0 none 0 0, .bool false])))
set_option maxRecDepth 100000 in
set_option maxHeartbeats 4000000 in
theorem targetOf_any (h : BH) (l : List Blk) (A : Option Addr) (n c B q : Nat) (w : World) (hr : RdL w B A n l) (hB : B ≤ w.heap.size) :
    Calls Tryz.prog 108 #[bunV h A n c, .int .u64 (q : Int)] w (TgtU l q B w) := by
  have HRW := Lib.hid (fun (W : World) (hb : Below (w.heap.size + 1) (w.alloc (.cells #[.int .u64 (h.flg : Int), .int .i64 h.crc, .int .i64 h.dsc, .string h.dnm, .int .u64 (h.dn : Int), .int .u64 (h.dv : Int), .int .i64 h.ssc, .string h.snm, .int .u64 (h.sn : Int), .int .u64 (h.sv : Int), .int .i64 h.rsc, .string h.rnm, .int .u64 (h.rn : Int), .int .u64 (h.rv : Int), .int .u64 (h.tim : Int), .int .u64 (h.seq : Int), .int .u64 (h.lif : Int), .slice A n c] 73)) W) => row_of_box (w := w) rfl hb)
  have HB0 : Hid (Below w.heap.size w ((w.alloc (.cells #[.int .u64 (h.flg : Int), .int .i64 h.crc, .int .i64 h.dsc, .string h.dnm, .int .u64 (h.dn : Int), .int .u64 (h.dv : Int), .int .i64 h.ssc, .string h.snm, .int .u64 (h.sn : Int), .int .u64 (h.sv : Int), .int .i64 h.rsc, .string h.rnm, .int .u64 (h.rn : Int), .int .u64 (h.rv : Int), .int .u64 (h.tim : Int), .int .u64 (h.seq : Int), .int .u64 (h.lif : Int), .slice A n c] 73)).alloc (.cells #[.int .u64 0, .int .u64 0, .int .u64 0, .int .i64 0, .slice none 0 0] 48))) := ((Below.refl _ _).alloc (Nat.le_refl _) _).alloc (le_alloc _ _) _
  have HB1 : Hid (Below (w.heap.size + 1) (w.alloc (.cells #[.int .u64 (h.flg : Int), .int .i64 h.crc, .int .i64 h.dsc, .string h.dnm, .int .u64 (h.dn : Int), .int .u64 (h.dv : Int), .int .i64 h.ssc, .string h.snm, .int .u64 (h.sn : Int), .int .u64 (h.sv : Int), .int .i64 h.rsc, .string h.rnm, .int .u64 (h.rn : Int), .int .u64 (h.rv : Int), .int .u64 (h.tim : Int), .int .u64 (h.seq : Int), .int .u64 (h.lif : Int), .slice A n c] 73)) ((w.alloc (.cells #[.int .u64 (h.flg : Int), .int .i64 h.crc, .int .i64 h.dsc, .string h.dnm, .int .u64 (h.dn : Int), .int .u64 (h.dv : Int), .int .i64 h.ssc, .string h.snm, .int .u64 (h.sn : Int), .int .u64 (h.sv : Int), .int .i64 h.rsc, .string h.rnm, .int .u64 (h.rn : Int), .int .u64 (h.rv : Int), .int .u64 (h.tim : Int), .int .u64 (h.seq : Int), .int .u64 (h.lif : Int), .slice A n c] 73)).alloc (.cells #[.int .u64 0, .int .u64 0, .int .u64 0, .int .i64 0, .slice none 0 0] 48))) := (Below.refl _ _).alloc (by simp) _
  have HS0 : Hid (((w.alloc (.cells #[.int .u64 (h.flg : Int), .int .i64 h.crc, .int .i64 h.dsc, .string h.dnm, .int .u64 (h.dn : Int), .int .u64 (h.dv : Int), .int .i64 h.ssc, .string h.snm, .int .u64 (h.sn : Int), .int .u64 (h.sv : Int), .int .i64 h.rsc, .string h.rnm, .int .u64 (h.rn : Int), .int .u64 (h.rv : Int), .int .u64 (h.tim : Int), .int .u64 (h.seq : Int), .int .u64 (h.lif : Int), .slice A n c] 73)).alloc (.cells #[.int .u64 0, .int .u64 0, .int .u64 0, .int .i64 0, .slice none 0 0] 48)).heap.size = w.heap.size + 2) := by show _ = _; simp
  have hz0 := fun (W : World) (hb : Below (w.heap.size + 1 + 1) ((w.alloc (.cells #[.int .u64 (h.flg : Int), .int .i64 h.crc, .int .i64 h.dsc, .string h.dnm, .int .u64 (h.dn : Int), .int .u64 (h.dv : Int), .int .i64 h.ssc, .string h.snm, .int .u64 (h.sn : Int), .int .u64 (h.sv : Int), .int .i64 h.rsc, .string h.rnm, .int .u64 (h.rn : Int), .int .u64 (h.rv : Int), .int .u64 (h.tim : Int), .int .u64 (h.seq : Int), .int .u64 (h.lif : Int), .slice A n c] 73)).alloc (.cells #[.int .u64 0, .int .u64 0, .int .u64 0, .int .i64 0, .slice none 0 0] 48)) W) => zero5 (g := w.heap.size + 1) (by simp) hb
  have HZ := Lib.hid hz0
  clear hz0
  have CF := Lib.hid (fun (W : World) (hb : Below w.heap.size w W) => ufind_any h l A n c W.heap.size q W ((hr.below (hb.mono hB)).more (Nat.le_trans hB hb.size)) (Nat.le_refl _))
  have HR := Lib.hid hr
  have HB := Lib.hid hB
  clear hr hB
  have HG : Hid (∀ e w', Below w.heap.size w w' ∧
  ((∃ (x : Blk) (Ax : Option Addr) (nd cd : Nat), l.find? (pNum q) = some x ∧ x.typ ≠ 11 ∧ x ∈ l ∧ Bd x ∧ (nd ≤ cd ∧ nd ≤ 140737488355328) ∧ Rd w B Ax nd x.dat ∧ e = .returned (.tuple #[blkV x.typ x.num x.flg x.crc Ax nd cd, .bool true])) ∨
   ((∀ x, l.find? (pNum q) = some x → x.typ = 11) ∧ e = .returned (.tuple #[blkV 0 0 0 0 none 0 0, .bool false]))) → TgtU l q B w e w') := fun _ _ hh => hh
  rcases plc_find (pNum q) l 0 with ⟨h1, h2⟩ | ⟨k, hk, h1, h2⟩
  · have H2 := Lib.hid h2
    rw [h1] at CF
    clear h1 h2
    unfold bunV at *
    go_enter Tryz.func108, Tryz.ntmps108
    go_wp2_with (first
      | (refine wpList_ld18 rfl (.tmp 2) rfl _ rfl _ _ (HRW.out _ HB1.out) rfl ?_)
      | fail)
    refine (CF.out _ HB0.out).mono ?_
    rintro e w1 ⟨rfl, hb⟩
    obtain ⟨⟨z0, z1, z2, z3, z4⟩, f0, f1, f2, f3, f4⟩ := HZ.out w1 (hb.mono (by rw [HS0.out]; exact Nat.le_refl _))
    have T1 := Lib.hid (HB0.out.trans (hb.mono (by rw [HS0.out]; omega)))
    clear hb
    go_wp2_with fail
    refine bodyPost_ret (v := .tuple #[blkV 0 0 0 0 none 0 0, .bool false]) (by simp [results, Tryz.results108, go_sem, z0, z1, z2, z3, z4, blkV]) rfl (HG.out _ _ ⟨below_put5 T1.out (Nat.le_succ _), .inr ⟨fun x hx => (by rw [H2.out] at hx; cases hx), rfl⟩⟩)
  · rw [Nat.zero_add] at h1
    have hkn : k < n := by rw [← HR.out.1]; exact hk
    have hk1 : (k : Int) < (n : Int) := by omega
    have hk0 : decide ((k : Int) < 0) = false := decide_eq_false (by omega)
    obtain ⟨b, o, rfl, hbB, hks⟩ := HR.out.2.1 (by omega)
    obtain ⟨A1, nd, cd, hkk⟩ := hks.get k hk
    have HK := Lib.hid hkk
    have HMEM := Lib.hid (List.getElem_mem hk)
    have H2 := Lib.hid h2
    rw [h1] at CF
    generalize l[k]'hk = x at *
    have HBB := Lib.hid hbB
    clear h1 h2 hks hkk hbB
    by_cases h11 : x.typ = 11
    · have ht : ((x.typ : Int) == 11) = true := by rw [h11]; rfl
      have H11 := Lib.hid h11
      clear h11
      unfold bunV at *
      go_enter Tryz.func108, Tryz.ntmps108
      go_wp2_with (first
        | (refine wpList_ld18 rfl (.tmp 2) rfl _ rfl _ _ (HRW.out _ HB1.out) rfl ?_)
        | fail)
      refine (CF.out _ HB0.out).mono ?_
      rintro e w1 ⟨rfl, hb⟩
      obtain ⟨⟨z0, z1, z2, z3, z4⟩, f0, f1, f2, f3, f4⟩ := HZ.out w1 (hb.mono (by rw [HS0.out]; exact Nat.le_refl _))
      have hT1 := HB0.out.trans (hb.mono (by rw [HS0.out]; omega))
      have x17 := cell_row (HRW.out w1 (HB1.out.trans (hb.mono (by rw [HS0.out]; omega)))) 17 rfl
      have g0 := (HK.out.below (hT1.mono HB.out) HBB.out).k0
      have T1 := Lib.hid hT1
      clear hb hT1
      go_wp2_with fail
      refine bodyPost_ret (v := .tuple #[blkV 0 0 0 0 none 0 0, .bool false]) (by simp [results, Tryz.results108, go_sem, z0, z1, z2, z3, z4, blkV]) rfl (HG.out _ _ ⟨below_put5 T1.out (Nat.le_succ _), .inr ⟨fun y hy => (by rw [H2.out] at hy; injection hy with hy; rw [← hy]; exact H11.out), rfl⟩⟩)
    · have ht : ((x.typ : Int) == 11) = false := by rw [beq_eq_false_iff_ne]; omega
      have H11 := Lib.hid h11
      clear h11
      unfold bunV at *
      go_enter Tryz.func108, Tryz.ntmps108
      go_wp2_with (first
        | (refine wpList_ld18 rfl (.tmp 2) rfl _ rfl _ _ (HRW.out _ HB1.out) rfl ?_)
        | fail)
      refine (CF.out _ HB0.out).mono ?_
      rintro e w1 ⟨rfl, hb⟩
      obtain ⟨⟨z0, z1, z2, z3, z4⟩, f0, f1, f2, f3, f4⟩ := HZ.out w1 (hb.mono (by rw [HS0.out]; exact Nat.le_refl _))
      have hT1 := HB0.out.trans (hb.mono (by rw [HS0.out]; omega))
      have x17 := cell_row (HRW.out w1 (HB1.out.trans (hb.mono (by rw [HS0.out]; omega)))) 17 rfl
      have hK1 := HK.out.below (hT1.mono HB.out) HBB.out
      have g0 := hK1.k0
      have g1 := hK1.k1
      have g2 := hK1.k2
      have g3 := hK1.k3
      have g4 := hK1.k4
      have T1 := Lib.hid hT1
      clear hb hT1 hK1
      go_wp2_with fail
      refine bodyPost_ret (v := .tuple #[blkV x.typ x.num x.flg x.crc A1 nd cd, .bool true]) (by simp [results, Tryz.results108, go_sem, z0, z1, z2, z3, z4, blkV]) rfl (HG.out _ _ ⟨below_put5 T1.out (Nat.le_succ _), .inl ⟨x, A1, nd, cd, H2.out, H11.out, HMEM.out, HK.out.bd, HK.out.le, HK.out.rd, rfl⟩⟩)
end Go.Proofs.YtlecbblmaadpiaaGreatDoor
