/- The code's disk: what waits done in part, cleared: laws. -/
import Derived.Test.YtahgaogmcffglaaDoorJDscD
namespace Go.Proofs.YtahgaogmcffglaaDoor
open Go.RowKit

/-- Which bytes of a write are done, as numbers. -/
theorem partFT_nat (k : Int) : ∃ f t : Nat, (partFT k).1 = (f : Int) ∧ (partFT k).2 = (t : Int) ∧ f ≤ t ∧ t ≤ 64 ∧ f < 64 ∧ ∀ old new : List UInt8, old.length = 64 → new.length = 64 → part old new f t = torn k old new := by
  unfold partFT
  by_cases h1 : k = 1
  · subst h1
    exact ⟨0, 64, rfl, rfl, by omega, by omega, by omega, fun old new ho hn => by rw [part_all ho hn, torn, if_pos rfl]⟩
  by_cases h2 : k = 2
  · subst h2
    exact ⟨0, 32, rfl, rfl, by omega, by omega, by omega, fun old new ho hn => part_2⟩
  by_cases h3 : k = 3
  · subst h3
    exact ⟨32, 64, rfl, rfl, by omega, by omega, by omega, fun old new ho hn => part_3 ho hn⟩
  · rw [if_neg h1, if_neg h2, if_neg h3]
    exact ⟨0, 0, rfl, rfl, by omega, by omega, by omega, fun old new ho hn => by rw [part_nil, torn, if_neg h1, if_neg h2, if_neg h3]⟩
/-- A sector done in part is a splice of all. -/
theorem flat_part : ∀ {S : List (List UInt8)} {a f t : Nat} {b : List UInt8} (_ : ∀ s ∈ S, s.length = 64) (hi : a < S.length) (_ : b.length = 64) (_ : f ≤ t) (_ : t ≤ 64), (S.set a (part S[a] b f t)).flatten = splice S.flatten (a * 64 + f) ((b.drop f).take (t - f))
  | [], _, _, _, _, _, hi, _, _, _ => absurd hi (Nat.not_lt_zero _)
  | s :: S, 0, f, t, b, h, _, hb, h1, h2 => by
    have hs := h s (by simp)
    show (part s b f t :: S).flatten = _
    rw [List.flatten_cons, List.flatten_cons]
    unfold part splice
    have e1 : ((b.drop f).take (t - f)).length = t - f := by simp; omega
    rw [e1, Nat.zero_mul, Nat.zero_add, show f + (t - f) = t by omega, List.take_append_of_le_length (by omega), List.drop_append_of_le_length (by omega)]
    simp only [List.append_assoc]
  | s :: S, a + 1, f, t, b, h, hi, hb, h1, h2 => by
    have hs := h s (by simp)
    have ih := flat_part (S := S) (a := a) (f := f) (t := t) (b := b) (fun y hy => h y (by simp [hy])) (by simpa using hi) hb h1 h2
    show (s :: S.set a (part (S[a]'(by simpa using hi)) b f t)).flatten = _
    rw [List.flatten_cons, List.flatten_cons, ih]
    unfold splice
    have e1 : ((b.drop f).take (t - f)).length = t - f := by simp; omega
    rw [e1, List.take_append, List.drop_append, List.take_of_length_le (show s.length ≤ (a + 1) * 64 + f by omega), List.drop_eq_nil_of_le (show s.length ≤ (a + 1) * 64 + f + (t - f) by omega), List.nil_append, show (a + 1) * 64 + f - s.length = a * 64 + f by omega, show (a + 1) * 64 + f + (t - f) - s.length = a * 64 + f + (t - f) by omega]
    simp only [List.append_assoc]
theorem map_splice {α β : Type} (f : α → β) (L : List α) (o : Nat) (cs : List α) : (splice L o cs).map f = splice (L.map f) o (cs.map f) := by
  unfold splice
  simp only [List.map_append, List.map_take, List.map_drop, List.length_map]
/-- copy as a step: one row alone is turned. -/
theorem step_copy13 {P : Program} {ops : Array Oper} {o : Oper} {a : Act} {w : World} {K : Act → World → Prop} {Q : Exit → Act → World → Prop} {E : Prop} (hgd : o.guard = none) (d s : Operand) (dT sT : TypeId)
    (ho : o.op = .call { callee := .builtin .copy, args := #[d, s], argTypes := #[dT, sT] }) (elem : TypeId) (hu : P.underlying dT = some (.slice elem)) (hsz : (P.info? elem).map (·.size) = some 1)
    (g off : Nat) (ad : Addr) (m dCap sCap : Nat) (hd : a.eval d = .slice (some ⟨g, off, none⟩) m dCap) (hs : a.eval s = .slice (some ad) m sCap)
    (cur : List Value) (t : TypeId) (hg : w.heap[g]? = some (.cells cur.toArray t (0, 0))) (cs : List Value) (hn : cs.length = m)
    (hsrc : ∀ j v, cs[j]? = some v → w.cell? (ad.add j) = some v)
    (hfit : off + cs.length ≤ cur.length) (h1 : ∀ v ∈ cs, v.oneCell' = true)
    (h : ∀ w', RowKit.Hid (w'.heap[g]? = some (.cells (splice cur off cs).toArray t (0, 0))) → RowKit.Hid (∀ k, k ≠ g → w'.heap[k]? = w.heap[k]?) → RowKit.Hid (Fr (fun k => k = g) w w') → K (a.put o.dst (goInt cs.length)) w') :
    if Region.wanted o (yielded ops a.tmps) = true then Oper.wp P o a w K Q else E := by
  have hw : Region.wanted o (yielded ops a.tmps) = true := by simp [Region.wanted, hgd]
  rw [if_pos hw]
  have hrun := run_copy_row (P := P) w dT sT o.type elem g off m dCap ad m sCap cur.toArray t cs hu hsz hg (by rw [hn]; exact (Nat.min_self m).symm) hsrc (by simpa using hfit) h1
  unfold Oper.wp
  simp [execOp, ho, resolve, invoke, builtin, hd, hs, hrun, Result.andThen]
  refine h _ (show _ = _ by simpa [splice] using setRow_heap w g _ _ t _ hg) (fun k hk => setRow_other w g k _ hk) ⟨rfl, rfl, rfl, by simp [World.setRow], fun k _ hk => setRow_other w g k _ hk⟩
/-- A cut of an array. -/
theorem cut_arr13 {b o f t : Nat} (h1 : f ≤ t) (h2 : t ≤ 64) (h3 : f < 64) (W : World) : (Instr.sliceAt 77 (.pointer (some ⟨b, o, none⟩)) (some (.int .i64 (f : Int))) (some (.int .i64 (t : Int))) none).run Tryd.prog W = .ok (.slice (some ⟨b, o + f, none⟩) (t - f) (64 - f)) W := by
  have hz := size_u8
  have ht := Tryd.underlying77
  have i1 : (0 : Int) ≤ (t : Int) := by omega
  have i2 : (t : Int) ≤ 64 := by omega
  have i3 : (0 : Int) ≤ (f : Int) := by omega
  have i4 : (f : Int) ≤ (t : Int) := by omega
  have e4 : ¬ 64 = f := by omega
  have e5 : (⟨b, o, none⟩ : Addr).add f = ⟨b, o + f, none⟩ := add_mk b o f
  unfold Instr.sliceAt
  go_simp
/-- Nothing of a slice. -/
theorem cut_none13 {A : Option Addr} {n c : Nat} (W : World) : (Instr.slice 80 (.slice A n c) none (some (.int .i64 0)) none).run Tryd.prog W = .ok (.slice A 0 c) W := by
  have ht := Tryd.underlying80
  have hz : ∀ W : World, (sizeOf 79).run Tryd.prog W = .ok 65 W := fun W => by
    obtain ⟨i, hi, hs⟩ := Option.map_eq_some_iff.1 wr_info
    simp [sizeOf, typeInfo, hi, hs]
  have i1 : (0 : Int) ≤ (c : Int) := by omega
  have e5 : ∀ a : Addr, a.add 0 = a := fun a => by simp [Addr.add]
  cases A with
  | none => go_simp
  | some a =>
    have e6 := e5 a
    go_simp
section
variable {w w' : World} {F : Nat → Prop} {B g ga : Nat} {D : Cd}
/-- A sector done in part. -/
theorem CDk.done (h : CDk w F B g D) {N c : Nat} (hga : w.cell? ⟨g, 0, none⟩ = some (.slice (some ⟨ga, 0, none⟩) N c)) {a f t : Nat} {b : List UInt8} (ha : a < D.secs.length) (hb : b.length = 64) (h1 : f ≤ t) (h2 : t ≤ 64)
    (hrow : w'.heap[ga]? = some (.cells (splice (D.secs.flatten.map bv) (a * 64 + f) (((b.drop f).take (t - f)).map bv)).toArray 77 (0, 0))) (hk : ∀ k, k ≠ ga → w'.heap[k]? = w.heap[k]?) (hs : w.heap.size ≤ w'.heap.size) :
    CDk w' F B g { D with secs := D.secs.set a (part D.secs[a] b f t) } := by
  obtain ⟨ga', vw, e1, e2, e3, e4, e5, e6, e7⟩ := h.st
  have e0 : w.cell? ⟨g, 0, none⟩ = some (.slice (some ⟨ga', 0, none⟩) D.secs.length D.secs.length) := by simp [World.cell?, e1]
  rw [e0] at hga
  injection hga with hga
  injection hga with hga _ _
  injection hga with hga
  injection hga with hga
  subst hga
  have hl := h.wide _ (List.getElem_mem ha)
  refine ⟨h.le, h.fg, fun s hs => ?_, by rw [List.length_set]; exact h.pos, by rw [List.length_set]; exact h.few, fun x hx => by rw [List.length_set]; exact h.inn x hx, h.wid, fun k hk => ⟨(h.fit k hk).1, Nat.lt_of_lt_of_le (h.fit k hk).2 hs⟩, ga', vw, ?_, ?_, e3, e4, e5, owns_same e6 (fun k e => hk k (e7 k e).2.2), e7⟩
  · rcases List.mem_or_eq_of_mem_set hs with e | e
    · exact h.wide s e
    · rw [e]; unfold part; simp; omega
  · rw [List.length_set]
    exact (hk g e5.symm).trans e1
  · rw [flat_part h.wide ha hb h1 h2, map_splice]
    exact hrow
/-- What waits is cleared. -/
theorem CDk.clear (h : CDk w F B g D) {A : Option Addr} {n c : Nat} (hv : w.cell? ⟨g, 1, none⟩ = some (.slice A n c)) {xs : List Value} (ho : w'.ownsRow B 79 65 (.slice A n c) n xs) (hk : ∀ k, (Value.slice A n c).ownBlock ≠ some k → w'.heap[k]? = w.heap[k]?) (hf : Fr (fun k => (Value.slice A n c).ownBlock = some k) w w') :
    w'.cell? ⟨g, 1, none⟩ = some (.slice A n c) ∧ w'.frozen? ⟨g, 1, none⟩ = false ∧ CDk (w'.setCell ⟨g, 1, none⟩ (.slice A 0 c)) F B g { D with waits := [] } ∧ Fr F w (w'.setCell ⟨g, 1, none⟩ (.slice A 0 c)) := by
  obtain ⟨ga, vw, h1, h2, h3, h4, h5, h6, h8⟩ := h.st
  have e0 : w.cell? ⟨g, 1, none⟩ = some vw := by simp [World.cell?, h1]
  rw [e0] at hv
  injection hv with hv
  subst hv
  have hgn : (Value.slice A n c).ownBlock ≠ some g := fun e => (h8 g e).2.1 rfl
  have han : (Value.slice A n c).ownBlock ≠ some ga := fun e => (h8 ga e).2.2 rfl
  have hg' : w'.heap[g]? = w.heap[g]? := hk g hgn
  have hF : Fr F w (w'.setCell ⟨g, 1, none⟩ (.slice A 0 c)) := (hf.mono (fun k e => (h8 k e).1)).setCell (p := ⟨g, 1, none⟩) (.inl h.fg) _
  have ho2 : (w'.setCell ⟨g, 1, none⟩ (.slice A 0 c)).ownsRow B 79 65 (.slice A 0 c) 0 [] := by
    refine ⟨rfl, ?_⟩
    rcases ho.2 with ⟨e, _⟩ | ⟨b, cap, cur, e, hb, hh, hn, hm, hs, ht⟩
    · injection e with e1 e2 e3
      subst e1 e3
      exact .inl ⟨rfl, rfl⟩
    · injection e with e1 e2 e3
      subst e1 e3
      exact .inr ⟨b, c, cur, rfl, hb, (Below.heap_setCell _ _ _ _ (fun (e : b = g) => hgn (by rw [e]; rfl))).trans hh, Nat.zero_le _, hm, hs, by simp⟩
  refine ⟨(World.cell?_of_block (a := ⟨g, 1, none⟩) hg').trans e0, by simp [World.frozen?, hg', h1], ⟨h.le, h.fg, h.wide, h.pos, h.few, fun x hx => (nomatch hx), fun x hx => (nomatch hx), fun k hk => by rw [World.size_setCell]; exact ⟨(h.fit k hk).1, Nat.lt_of_lt_of_le (h.fit k hk).2 hf.size⟩, ga, .slice A 0 c, ?_, (Below.heap_setCell _ _ _ _ h5).trans ((hk ga han).trans h2), h3, h4, h5, ho2, fun b e => h8 b (by cases A with | none => cases e | some a => exact e)⟩, hF⟩
  have := row_setC (hg'.trans h1) 1 (.slice A 0 c)
  simpa using this
end
/-- clear of a row of one's own. -/
theorem wpList_clear13 {P : Program} {w : World} {ops : Array Oper} {rest : List Oper} {o : Oper} {a : Act} {Q : Exit → Act → World → Prop} (hgd : o.guard = none) (x : Operand) (t : TypeId)
    (ho : o.op = .call { callee := .builtin .clear, args := #[x], argTypes := #[t] }) (base : Nat) (e : TypeId) (size : Nat) (z : Value) (ht : P.underlying t = some (.slice e)) (hinfo : (P.info? e).map (fun i => (i.zero, i.size)) = some (some z, size)) (hz1 : z.cells.size = size) (hsz : 0 < size) (hzo : ∀ u ∈ z.cells, u.oneCell' = true)
    (A : Option Addr) (n c : Nat) (xs : List Value) (hx : a.eval x = .slice A n c) (hown : w.ownsRow base e size (.slice A n c) n xs)
    (h : ∀ w' ys, w'.ownsRow base e size (.slice A n c) n ys → (∀ k, (Value.slice A n c).ownBlock ≠ some k → w'.heap[k]? = w.heap[k]?) → Fr (fun k => (Value.slice A n c).ownBlock = some k) w w' → wpList P ops Q rest (a.put o.dst (.tuple #[])) w') : wpList P ops Q (o :: rest) a w := by
  obtain ⟨i, hi, hzz⟩ := Option.map_eq_some_iff.1 hinfo
  simp only [Prod.mk.injEq] at hzz
  obtain ⟨hi0, hi1⟩ := hzz
  have key : ∃ w' ys, (Builtin.clear_ #[t] o.type #[.slice A n c]).run P w = .ok (.tuple #[]) w' ∧ w'.ownsRow base e size (.slice A n c) n ys ∧ (∀ k, (Value.slice A n c).ownBlock ≠ some k → w'.heap[k]? = w.heap[k]?) ∧ Fr (fun k => (Value.slice A n c).ownBlock = some k) w w' := by
    rcases hown.2 with ⟨ev, rfl⟩ | ⟨b, cap, cur, ev, hb, hg, hn, hm, hs, htk⟩
    · injection ev with e1 e2 e3
      subst e1
      refine ⟨w, xs, ?_, hown, fun _ _ => rfl, Fr.refl _ _⟩
      simp [Builtin.clear_, run_underlying ht]
    · injection ev with e1 e2 e3
      subst e1
      subst e3
      cases n with
      | zero =>
        refine ⟨w, xs, ?_, hown, fun _ _ => rfl, Fr.refl _ _⟩
        simp [Builtin.clear_, run_underlying ht]
      | succ n =>
        obtain ⟨zs, hzs⟩ : ∃ zs, zs = (Builtin.zeroCells z.cells (n + 1)).toList := ⟨_, rfl⟩
        have hzl : zs.length = (n + 1) * size := by rw [hzs]; simp [Builtin.zeroCells, hz1]
        have hzo2 : ∀ u ∈ zs, u.oneCell' = true := by
          intro u hu
          rw [hzs] at hu
          simp only [Builtin.zeroCells, Array.toList_map, List.mem_map, Array.toList_range, List.mem_range] at hu
          obtain ⟨j, hj, rfl⟩ := hu
          have hlt : j % z.cells.size < z.cells.size := Nat.mod_lt _ (by omega)
          rw [getElem!_pos z.cells _ hlt]
          exact hzo _ (Array.getElem_mem hlt)
        have hle : (n + 1) * size ≤ c * size := Nat.mul_le_mul_right _ hn
        have hst := run_storeCells_at P b 0 e zs 0 cur w hg (by rw [hzl, hs]; omega) hzo2
        obtain ⟨cs2, hcs2⟩ : ∃ cs2, cs2 = (List.take (0 + 0) cur.toList ++ zs ++ List.drop (0 + 0 + zs.length) cur.toList).toArray := ⟨_, rfl⟩
        rw [← hcs2] at hst
        refine ⟨w.setRow b cs2, zs, ?_, ⟨hzl, .inr ⟨b, c, cs2, rfl, hb, setRow_heap w b _ _ e _ hg, hn, hm, ?_, ?_⟩⟩, fun k hk => setRow_other w b k _ (fun e => hk (by rw [e]; rfl)), ⟨rfl, rfl, rfl, by simp [World.setRow], fun k _ hk => setRow_other w b k _ (fun e => hk (by rw [e]; rfl))⟩⟩
        · simp only [Builtin.clear_]
          simp [run_underlying ht, zeroValue, typeInfo, hi, hi0, ← hzs, hst]
        · rw [hcs2]; simp [hzl, hs]; omega
        · rw [hcs2]; simp [hzl]
  obtain ⟨w', ys, hrun, h2, h3, h4⟩ := key
  refine wpList_plain hgd fun K hK => ?_
  unfold Oper.wp
  simp [execOp, ho, resolve, invoke, builtin, hx, hrun, Result.andThen]
  exact hK _ _ (h w' ys h2 h3 h4)
end Go.Proofs.YtahgaogmcffglaaDoor
