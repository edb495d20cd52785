/- The statement's own disk: a write done. -/
import Derived.Test.YtchcimckffonjaaDskW
namespace Go.Proofs.Ytchcimckffonjaa
open Go.RowKit

theorem flat_len : ∀ {S : List (List UInt8)}, (∀ s ∈ S, s.length = 64) → S.flatten.length = S.length * 64
  | [], _ => rfl
  | s :: S, h => by
    rw [List.flatten_cons, List.length_append, flat_len (fun x hx => h x (by simp [hx])), h s (by simp), List.length_cons]
    omega
theorem flat_set : ∀ {S : List (List UInt8)} {i j : Nat} (_ : ∀ s ∈ S, s.length = 64) (hi : i < S.length) (_ : j < 64) (x : UInt8), (S.set i (S[i].set j x)).flatten = S.flatten.set (i * 64 + j) x
  | [], _, _, _, hi, _, _ => absurd hi (Nat.not_lt_zero _)
  | s :: S, 0, j, h, _, hj, x => by
    have hs := h s (by simp)
    show (s.set j x :: S).flatten = _
    rw [List.flatten_cons, List.flatten_cons, Nat.zero_mul, Nat.zero_add, List.set_append_left _ _ (by omega)]
  | s :: S, i + 1, j, h, hi, hj, x => by
    have hs := h s (by simp)
    show (s :: S.set i ((S[i]'(by simpa using hi)).set j x)).flatten = _
    rw [List.flatten_cons, List.flatten_cons, List.set_append_right _ _ (by omega), flat_set (fun y hy => h y (by simp [hy])) (by simpa using hi) hj x]
    congr 2
    omega
/-- One byte of a sector written. -/
theorem RDk.byte {w : World} {F : Nat → Prop} {B g ga N c : Nat} {D : Dk} (h : RDk w F B g D) (hga : w.cell? ⟨g, 0, none⟩ = some (.slice (some ⟨ga, 0, none⟩) N c)) {i j : Nat} (hi : i < D.secs.length) (hj : j < 64) (x : UInt8) :
    (∃ u, w.cell? ⟨ga, i * 64 + j, none⟩ = some u) ∧ w.frozen? ⟨ga, i * 64 + j, none⟩ = false ∧ ga ≠ g ∧ RDk (w.setCell ⟨ga, i * 64 + j, none⟩ (.int .u8 (x.toNat : Int))) F B g { D with secs := D.secs.set i (D.secs[i].set j x) } ∧ Fr (fun k => k = ga) w (w.setCell ⟨ga, i * 64 + j, none⟩ (.int .u8 (x.toNat : Int))) := by
  obtain ⟨ga', vw, cs, h1, h2, h3, h4, h5, h6, h7, h8⟩ := h.st
  obtain rfl : ga' = ga := by
    have : w.cell? ⟨g, 0, none⟩ = some (.slice (some ⟨ga', 0, none⟩) (D.secs.length * 64) (D.secs.length * 64)) := by simp [World.cell?, h1]
    rw [this] at hga
    injection hga with hga
    injection hga with hga _ _
    injection hga with hga
    injection hga
  have hl := flat_len h.wide
  have hb : i * 64 + j < D.secs.flatten.length := by rw [hl]; omega
  have hne : ∀ k, k ≠ ga' → (w.setCell ⟨ga', i * 64 + j, none⟩ (.int .u8 (x.toNat : Int))).heap[k]? = w.heap[k]? := fun k hk => Below.heap_setCell _ _ _ _ hk
  refine ⟨⟨.int .u8 ((D.secs.flatten[i * 64 + j]).toNat : Int), by rw [cell_of_row w ga' _ _ _ _ h2, List.getElem?_toArray, List.getElem?_map, List.getElem?_eq_getElem hb]; rfl⟩, by simp [World.frozen?, h2], h5, ⟨h.le, h.fg, fun s hs => ?_, by rw [List.length_set]; exact h.few, fun y hy => by rw [List.length_set]; exact h.inn y hy, fun k hk => by rw [World.size_setCell]; exact h.fit k hk, ga', vw, cs, ?_, ?_, h3, h4, h5, ?_, h7.same (fun k hk => hne k hk.2.2.1) (fun _ e => e), h8⟩, Fr.setCell (F := fun k => k = ga') (Fr.refl _ w) (p := ⟨ga', i * 64 + j, none⟩) (.inl rfl) _⟩
  · rcases List.mem_or_eq_of_mem_set hs with e | e
    · exact h.wide s e
    · rw [e, List.length_set]; exact h.wide _ (List.getElem_mem hi)
  · rw [List.length_set]
    exact (hne g h5.symm).trans h1
  · rw [flat_set h.wide hi hj x, row_setC h2]
    simp
  · refine ⟨h6.1, ?_⟩
    rcases h6.2 with hn | ⟨k, cap, cur, rfl, hb, hg, rest⟩
    · exact .inl hn
    · exact .inr ⟨k, cap, cur, rfl, hb, (hne k (h8 k rfl).2.2).trans hg, rest⟩
/-- The bytes from one place to another of new, else old. -/
def part (old new : List UInt8) (from_ to_ : Nat) : List UInt8 := old.take from_ ++ (new.drop from_).take (to_ - from_) ++ old.drop to_
theorem part_nil (old new : List UInt8) (i : Nat) : part old new i i = old := by simp [part]
theorem part_step {old new : List UInt8} {f i : Nat} (h1 : old.length = 64) (h2 : new.length = 64) (hf : f ≤ i) (hi : i < 64) : (part old new f i).set i (new[i]'(by omega)) = part old new f (i + 1) := by
  unfold part
  have e1 : (old.take f ++ (new.drop f).take (i - f)).length = i := by simp; omega
  rw [List.set_append_right _ _ (by omega), e1, Nat.sub_self, List.drop_eq_getElem_cons (l := old) (i := i) (by omega), List.set_cons_zero]
  have e2 : i + 1 - f = i - f + 1 := by omega
  rw [e2, List.take_add_one, List.getElem?_drop, show f + (i - f) = i by omega, List.getElem?_eq_getElem (by omega)]
  simp

set_option maxRecDepth 100000 in
set_option maxHeartbeats 4000000 in
theorem rdone_any (w : World) {F : Nat → Prop} {B g ga N0 c0 at_ f t : Nat} {D : Dk} {v : Value} {b : List UInt8} (h : RDk w F B g D) (hga : w.cell? ⟨g, 0, none⟩ = some (.slice (some ⟨ga, 0, none⟩) N0 c0)) (hat : at_ < D.secs.length) (ho : Ob w B 5 v b) (hl : b.length = 64) (hne : ∀ k, v.ownBlock = some k → k ≠ ga) (hft : f ≤ t) (ht : t ≤ 64) :
    Calls Try.prog 38 #[.pointer (some ⟨g, 0, none⟩), .agg #[.int .i64 (at_ : Int), v], .int .i64 (f : Int), .int .i64 (t : Int)] w fun e w' => e = .returned (.tuple #[]) ∧ RDk w' F B g { D with secs := D.secs.set at_ (part D.secs[at_] b f t) } ∧ Fr (fun k => k = ga) w w' := by
  obtain ⟨kb, cb, rfl, hkB, hkb, -⟩ : ∃ kb cb, v = .slice (some ⟨kb, 0, none⟩) 64 cb ∧ B ≤ kb ∧ kb < w.heap.size ∧ True := by
    obtain ⟨kb, cb, e, h1, h2, -⟩ := ho.form (by omega)
    rw [hl] at e
    exact ⟨kb, cb, e, h1, h2, trivial⟩
  have hkne : kb ≠ ga := hne kb rfl
  have hcell : ∀ j, (hj : j < 64) → w.cell? ⟨kb, j, none⟩ = some (.int .u8 ((b[j]'(by omega)).toNat : Int)) := fun j hj => by
    have := ho.cell hl hj
    rw [this, List.getD_eq_getElem?_getD, List.getElem?_eq_getElem (by omega)]
    rfl
  obtain ⟨z, hz⟩ : ∃ z, z = w.heap.size := ⟨_, rfl⟩
  obtain ⟨wa, hwa⟩ : ∃ wa, wa = w.alloc (.cells #[.int .i64 (at_ : Int), .slice (some ⟨kb, 0, none⟩) 64 cb] 70) := ⟨_, rfl⟩
  have hba : Below w.heap.size w wa := by rw [hwa]; exact (Below.refl _ _).alloc (Nat.le_refl _) _
  have hzc : wa.heap[z]? = some (.cells #[.int .i64 (at_ : Int), .slice (some ⟨kb, 0, none⟩) 64 cb] 70) := by rw [hwa, hz]; exact heap_alloc_new w _
  have hgl : g < w.heap.size := h.lt
  have hgal : ga < w.heap.size := by
    obtain ⟨⟨u, hu⟩, -⟩ := h.byte hga hat (by omega : 0 < 64) 0
    exact World.block_lt_of_cell? w ⟨ga, _, none⟩ hu
  have hgag : ga ≠ g := (h.byte hga hat (by omega : 0 < 64) 0).2.2.1
  have hs64 : D.secs[at_].length = 64 := h.wide _ (List.getElem_mem hat)
  have H0 : Hid (RDk wa F B g { D with secs := D.secs.set at_ (part D.secs[at_] b f f) } ∧ Fr (fun k => k = ga) wa wa) := by
    refine ⟨?_, Fr.refl _ _⟩
    rw [part_nil, List.set_getElem_self]
    exact h.below hba
  have HC := Lib.hid (And.intro (hba.cell (p := ⟨g, 0, none⟩) hgl |>.trans hga) (And.intro hzc fun j (hj : j < 64) => (hba.cell (p := ⟨kb, j, none⟩) hkb).trans (hcell j hj)))
  have HN := Lib.hid (And.intro hgag (And.intro hkne (And.intro (show z ≠ ga by omega) (And.intro (show g < wa.heap.size by have := hba.size; omega) (And.intro (show kb < wa.heap.size by have := hba.size; omega) (And.intro hat (And.intro hs64 (And.intro hl (And.intro ht h.few)))))))))
  have HBA := Lib.hid hba
  have HFT := Lib.hid hft
  clear h hga ho hkB hkb hkne hcell hgl hgal hgag hs64 hba hzc hne
  go_enter Try.func38, Try.ntmps38
  go_wp2_with fail
  rw [← hwa, ← hz]
  clear hz
  go_loopw [8] (fun k wr => ∃ i : Nat, f ≤ i ∧ i ≤ t ∧ k = .int .i64 i ∧ RDk wr F B g { D with secs := D.secs.set at_ (part D.secs[at_] b f i) } ∧ Fr (fun k => k = ga) wa wr) (fun k _ => t - (intOf k).toNat)
  case atStart => exact ⟨f, Nat.le_refl _, HFT.out, rfl, H0.out⟩
  case round =>
    obtain ⟨i, hfi, hit, rfl, hr, hf⟩ := hrel
    have HR := Lib.hid (And.intro hr (And.intro hf hfi))
    clear hr hf H0
    by_cases hlt : i < t
    case neg =>
      obtain rfl : t = i := by omega
      have tn : ¬ (t : Int) < (t : Int) := by omega
      clear hlt hfi hit
      go_wp2_with fail
      refine bodyPost_end (v := .tuple #[]) (by simp [results, Try.results38]) rfl ⟨rfl, HR.out.1, ?_⟩
      exact ((Fr.of_below HBA.out : Fr (fun k => k = ga) w wa)).trans HR.out.2.1 (Grew.refl w _)
    have tn : (i : Int) < (t : Int) := by omega
    have hi64 : i < 64 := by omega
    have i0 : (0 : Int) ≤ (i : Int) := by omega
    have hi64i : (i : Int) < 64 := by omega
    have keep : ∀ k, k < wa.heap.size → k ≠ ga → wr.heap[k]? = wa.heap[k]? := HR.out.2.1.block
    have q0 : wr.cell? ⟨g, 0, none⟩ = some (.slice (some ⟨ga, 0, none⟩) N0 c0) := (World.cell?_of_block (w := wa) (a := ⟨g, 0, none⟩) (keep g HN.out.2.2.2.1 HN.out.1.symm)).trans HC.out.1
    have hzr : wr.heap[z]? = _ := (keep z (Array.getElem?_eq_some_iff.1 HC.out.2.1).1 HN.out.2.2.1).trans HC.out.2.1
    have q1 : wr.cell? ⟨z, 0, none⟩ = some (.int .i64 (at_ : Int)) := by simp [World.cell?, hzr]
    have q2 : wr.cell? ⟨z, 1, none⟩ = some (.slice (some ⟨kb, 0, none⟩) 64 cb) := by simp [World.cell?, hzr]
    have hlb := HN.out.2.2.2.2.2.2.2.1
    have q3 : wr.cell? ⟨kb, i, none⟩ = some (.int .u8 ((b[i]'(by omega)).toNat : Int)) := (World.cell?_of_block (w := wa) (a := ⟨kb, i, none⟩) (keep kb HN.out.2.2.2.2.1 HN.out.2.1)).trans (HC.out.2.2 i hi64)
    have hin : at_ < (D.secs.set at_ (part D.secs[at_] b f i)).length := by rw [List.length_set]; exact HN.out.2.2.2.2.2.1
    obtain ⟨⟨u, hu⟩, hfz, -, hr2, hf2⟩ := HR.out.1.byte (D := { D with secs := D.secs.set at_ (part D.secs[at_] b f i) }) q0 hin hi64 (b[i]'(by omega))
    have hN0 : at_ * 64 + i < N0 ∧ N0 ≤ 4194304 := by
      obtain ⟨ga2, vw, ⟨c0', -⟩, -⟩ := HR.out.1.cells
      rw [c0'] at q0
      injection q0 with q0
      injection q0 with _ q0 _
      rw [List.length_set] at q0
      have h1 := HN.out.2.2.2.2.2.1
      have h2 := HN.out.2.2.2.2.2.2.2.2.2
      omega
    have hstep : (D.secs.set at_ (part D.secs[at_] b f i)).set at_ ((D.secs.set at_ (part D.secs[at_] b f i))[at_].set i (b[i]'(by omega))) = D.secs.set at_ (part D.secs[at_] b f (i + 1)) := by
      rw [List.set_set, List.getElem_set_self, part_step HN.out.2.2.2.2.2.2.1 hlb hfi hi64]
    have hr3 : RDk (wr.setCell ⟨ga, at_ * 64 + i, none⟩ (.int .u8 ((b[i]'(by omega)).toNat : Int))) F B g { D with secs := D.secs.set at_ (part D.secs[at_] b f (i + 1)) } := by
      rw [← hstep]; exact hr2
    have H3 := Lib.hid (And.intro hr3 (HR.out.2.1.trans hf2 (Grew.refl wa _)))
    have wm : IntKind.i64.wrap ((at_ : Int) * 64) = ((at_ * 64 : Nat) : Int) := by rw [IntKind.wrap_i64]; omega
    have wm2 : wrap64 ((at_ : Int) * 64) = ((at_ * 64 : Nat) : Int) := by unfold wrap64; omega
    obtain ⟨P, hP⟩ : ∃ P, P = at_ * 64 := ⟨_, rfl⟩
    rw [← hP] at hu hfz hN0 H3 wm wm2
    have wp1 : IntKind.i64.wrap ((P : Int) + (i : Int)) = ((P + i : Nat) : Int) := by rw [IntKind.wrap_i64]; omega
    have wp2 : wrap64 ((P : Int) + (i : Int)) = ((P + i : Nat) : Int) := by unfold wrap64; omega
    obtain ⟨Q, hQ⟩ : ∃ Q, Q = P + i := ⟨_, rfl⟩
    rw [← hQ] at hu hfz H3 wp1 wp2
    have hQN : Q < N0 := by omega
    have hQ0 : (0 : Int) ≤ (Q : Int) := by omega
    have hQN2 : (Q : Int) < (N0 : Int) := by omega
    generalize (b[i]'(by omega : i < b.length)) = x at *
    have HQ := Lib.hid (And.intro q0 (And.intro q1 (And.intro q2 q3)))
    have HZ := Lib.hid (And.intro hu hfz)
    clear hstep hr2 hr3 hf2 hin hzr keep q0 q1 q2 q3 hu hfz hP hQ hN0 hlb
    go_wp2_with fail
    refine AnyE.begin (S := fun W => W.cell? ⟨g, 0, none⟩ = some (.slice (some ⟨ga, 0, none⟩) N0 c0) ∧ W.cell? ⟨z, 0, none⟩ = some (.int .i64 (at_ : Int)) ∧ W.cell? ⟨z, 1, none⟩ = some (.slice (some ⟨kb, 0, none⟩) 64 cb) ∧ W.cell? ⟨kb, i, none⟩ = some (.int .u8 (x.toNat : Int))) (z := 15) (by kernel_rfl) ?_
    have hHeld : wr.drew.cell? ⟨g, 0, none⟩ = some (.slice (some ⟨ga, 0, none⟩) N0 c0) ∧ wr.drew.cell? ⟨z, 0, none⟩ = some (.int .i64 (at_ : Int)) ∧ wr.drew.cell? ⟨z, 1, none⟩ = some (.slice (some ⟨kb, 0, none⟩) 64 cb) ∧ wr.drew.cell? ⟨kb, i, none⟩ = some (.int .u8 (x.toNat : Int)) := HQ.out
    refine takeE (i := 0) (v := ?v0_1) rfl (by decide) (by kernel_rfl) (by kernel_rfl) (by kernel_rfl) (by kernel_rfl) (fun _ _ _ h => h) (by rfl) ?hy0_1 (by assumption) ?rest0_1
    case hy0_1 => (intro W hSw; obtain ⟨q0, q1, q2, q3⟩ := hSw; go_simp; try with_reducible rfl)
    try simp only [Act.put]
    try simp only [List.setIfInBounds_toArray]
    try simp only [List.set_cons_succ]
    try simp only [List.set_cons_zero]
    refine takeE (i := 1) (v := ?v1_2) rfl (by decide) (by kernel_rfl) (by kernel_rfl) (by kernel_rfl) (by kernel_rfl) (fun _ _ _ h => h) (by rfl) ?hy1_2 (by assumption) ?rest1_2
    case hy1_2 => (intro W hSw; obtain ⟨q0, q1, q2, q3⟩ := hSw; go_simp; try with_reducible rfl)
    try simp only [Act.put]
    try simp only [List.setIfInBounds_toArray]
    try simp only [List.set_cons_succ]
    try simp only [List.set_cons_zero]
    refine takeE (i := 2) (v := ?v2_3) rfl (by decide) (by kernel_rfl) (by kernel_rfl) (by kernel_rfl) (by kernel_rfl) (fun _ _ _ h => h) (by rfl) ?hy2_3 (by assumption) ?rest2_3
    case hy2_3 => (intro W hSw; obtain ⟨q0, q1, q2, q3⟩ := hSw; go_simp; try with_reducible rfl)
    try simp only [Act.put]
    try simp only [List.setIfInBounds_toArray]
    try simp only [List.set_cons_succ]
    try simp only [List.set_cons_zero]
    refine takeE (i := 3) (v := ?v3_4) rfl (by decide) (by kernel_rfl) (by kernel_rfl) (by kernel_rfl) (by kernel_rfl) (fun _ _ _ h => h) (by rfl) ?hy3_4 (by assumption) ?rest3_4
    case hy3_4 => (intro W hSw; obtain ⟨q0, q1, q2, q3⟩ := hSw; go_simp; try with_reducible rfl)
    try simp only [Act.put]
    try simp only [List.setIfInBounds_toArray]
    try simp only [List.set_cons_succ]
    try simp only [List.set_cons_zero]
    refine takeE (i := 4) (v := ?v4_5) rfl (by decide) (by kernel_rfl) (by kernel_rfl) (by kernel_rfl) (by kernel_rfl) (fun _ _ _ h => h) (by rfl) ?hy4_5 (by assumption) ?rest4_5
    case hy4_5 => (intro W hSw; obtain ⟨q0, q1, q2, q3⟩ := hSw; go_simp; try with_reducible rfl)
    try simp only [Act.put]
    try simp only [List.setIfInBounds_toArray]
    try simp only [List.set_cons_succ]
    try simp only [List.set_cons_zero]
    refine takeE (i := 5) (v := ?v5_6) rfl (by decide) (by kernel_rfl) (by kernel_rfl) (by kernel_rfl) (by kernel_rfl) (fun _ _ _ h => h) (by rfl) ?hy5_6 (by assumption) ?rest5_6
    case hy5_6 => (intro W hSw; obtain ⟨q0, q1, q2, q3⟩ := hSw; go_simp; try with_reducible rfl)
    try simp only [Act.put]
    try simp only [List.setIfInBounds_toArray]
    try simp only [List.set_cons_succ]
    try simp only [List.set_cons_zero]
    refine takeE (i := 6) (v := ?v6_7) rfl (by decide) (by kernel_rfl) (by kernel_rfl) (by kernel_rfl) (by kernel_rfl) (fun _ _ _ h => h) (by rfl) ?hy6_7 (by assumption) ?rest6_7
    case hy6_7 => (intro W hSw; obtain ⟨q0, q1, q2, q3⟩ := hSw; go_simp; try with_reducible rfl)
    try simp only [Act.put]
    try simp only [List.setIfInBounds_toArray]
    try simp only [List.set_cons_succ]
    try simp only [List.set_cons_zero]
    refine takeE (i := 7) (v := ?v7_8) rfl (by decide) (by kernel_rfl) (by kernel_rfl) (by kernel_rfl) (by kernel_rfl) (fun _ _ _ h => h) (by rfl) ?hy7_8 (by assumption) ?rest7_8
    case hy7_8 => (intro W hSw; obtain ⟨q0, q1, q2, q3⟩ := hSw; go_simp; try with_reducible rfl)
    try simp only [Act.put]
    try simp only [List.setIfInBounds_toArray]
    try simp only [List.set_cons_succ]
    try simp only [List.set_cons_zero]
    refine takeE (i := 8) (v := ?v8_9) rfl (by decide) (by kernel_rfl) (by kernel_rfl) (by kernel_rfl) (by kernel_rfl) (fun _ _ _ h => h) (by rfl) ?hy8_9 (by assumption) ?rest8_9
    case hy8_9 => (intro W hSw; obtain ⟨q0, q1, q2, q3⟩ := hSw; go_simp; try with_reducible rfl)
    try simp only [Act.put]
    try simp only [List.setIfInBounds_toArray]
    try simp only [List.set_cons_succ]
    try simp only [List.set_cons_zero]
    refine takeE (i := 9) (v := ?v9_10) rfl (by decide) (by kernel_rfl) (by kernel_rfl) (by kernel_rfl) (by kernel_rfl) (fun _ _ _ h => h) (by rfl) ?hy9_10 (by assumption) ?rest9_10
    case hy9_10 => (intro W hSw; obtain ⟨q0, q1, q2, q3⟩ := hSw; go_simp; try with_reducible rfl)
    try simp only [Act.put]
    try simp only [List.setIfInBounds_toArray]
    try simp only [List.set_cons_succ]
    try simp only [List.set_cons_zero]
    refine takeE (i := 10) (v := ?v10_11) rfl (by decide) (by kernel_rfl) (by kernel_rfl) (by kernel_rfl) (by kernel_rfl) (fun _ _ _ h => h) (by rfl) ?hy10_11 (by assumption) ?rest10_11
    case hy10_11 => (intro W hSw; obtain ⟨q0, q1, q2, q3⟩ := hSw; go_simp; try with_reducible rfl)
    try simp only [Act.put]
    try simp only [List.setIfInBounds_toArray]
    try simp only [List.set_cons_succ]
    try simp only [List.set_cons_zero]
    refine takeE (i := 11) (v := ?v11_12) rfl (by decide) (by kernel_rfl) (by kernel_rfl) (by kernel_rfl) (by kernel_rfl) (fun _ _ _ h => h) (by rfl) ?hy11_12 (by assumption) ?rest11_12
    case hy11_12 => (intro W hSw; obtain ⟨q0, q1, q2, q3⟩ := hSw; go_simp; try with_reducible rfl)
    try simp only [Act.put]
    try simp only [List.setIfInBounds_toArray]
    try simp only [List.set_cons_succ]
    try simp only [List.set_cons_zero]
    refine takeE (i := 12) (v := ?v12_13) rfl (by decide) (by kernel_rfl) (by kernel_rfl) (by kernel_rfl) (by kernel_rfl) (fun _ _ _ h => h) (by rfl) ?hy12_13 (by assumption) ?rest12_13
    case hy12_13 => (intro W hSw; obtain ⟨q0, q1, q2, q3⟩ := hSw; go_simp; try with_reducible rfl)
    try simp only [Act.put]
    try simp only [List.setIfInBounds_toArray]
    try simp only [List.set_cons_succ]
    try simp only [List.set_cons_zero]
    refine takeE (i := 13) (v := ?v13_14) rfl (by decide) (by kernel_rfl) (by kernel_rfl) (by kernel_rfl) (by kernel_rfl) (fun _ _ _ h => h) (by rfl) ?hy13_14 (by assumption) ?rest13_14
    case hy13_14 => (intro W hSw; obtain ⟨q0, q1, q2, q3⟩ := hSw; go_simp; try with_reducible rfl)
    try simp only [Act.put]
    try simp only [List.setIfInBounds_toArray]
    try simp only [List.set_cons_succ]
    try simp only [List.set_cons_zero]
    refine takeE (i := 14) (v := ?v14_15) rfl (by decide) (by kernel_rfl) (by kernel_rfl) (by kernel_rfl) (by kernel_rfl) (fun _ _ _ h => h) (by rfl) ?hy14_15 (by assumption) ?rest14_15
    case hy14_15 => (intro W hSw; obtain ⟨q0, q1, q2, q3⟩ := hSw; go_simp; try with_reducible rfl)
    try simp only [Act.put]
    try simp only [List.setIfInBounds_toArray]
    try simp only [List.set_cons_succ]
    try simp only [List.set_cons_zero]
    refine AnyE.ready (rs := [15]) (by kernel_rfl) (by simp) ?_
    refine ReadyE.last rfl (fun K hK => ?_)
    have hu : wr.drew.cell? ⟨ga, Q, none⟩ = some u := HZ.out.1
    have hfz : wr.drew.frozen? ⟨ga, Q, none⟩ = false := HZ.out.2
    rw [if_pos (by rfl)]
    go_simp
    refine hK.out _ _ ?_
    try simp only [Act.put]
    try simp only [List.setIfInBounds_toArray]
    try simp only [List.set_cons_succ]
    try simp only [List.set_cons_zero]
    clear hK K hu hfz hHeld
    refine AnyE.done (by kernel_rfl) ?_ _
    have HX : Hid (RDk (wr.drew.setCell ⟨ga, Q, none⟩ (.int .u8 (x.toNat : Int))) F B g { D with secs := D.secs.set at_ (part D.secs[at_] b f (i + 1)) } ∧ Fr (fun k => k = ga) wa (wr.drew.setCell ⟨ga, Q, none⟩ (.int .u8 (x.toNat : Int)))) :=
      ⟨H3.out.1.same (by simp) (fun _ _ => rfl), H3.out.2.os, H3.out.2.tape, H3.out.2.output, H3.out.2.size, H3.out.2.block⟩
    go_wp2_with fail
    go_roundw
    case rel => exact ⟨i + 1, by have := HR.out.2.2; omega, by omega, by simp, HX.out⟩
    case measure => simp [intOf]; omega
end Go.Proofs.Ytchcimckffonjaa
