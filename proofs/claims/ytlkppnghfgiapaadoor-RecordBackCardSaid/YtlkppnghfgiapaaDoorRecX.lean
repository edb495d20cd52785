/- Rows of framed records, cut; rows of numbers of the call's own. -/
import Derived.Test.YtlkppnghfgiapaaDoorRecW3
namespace Go.Proofs.YtlkppnghfgiapaaDoor
open Go.RowKit

/-- Where the k-th frame begins. -/
def offR (salt : Nat) (L : List Rcd) (k : Nat) : Nat := (framesR salt (L.take k)).length
theorem framesR_succ (salt : Nat) {L : List Rcd} {k : Nat} (h : k < L.length) : framesR salt (L.take (k + 1)) = framesR salt (L.take k) ++ frameR salt (L[k]'h) := by
  rw [List.take_add_one, List.getElem?_eq_getElem h, Option.toList_some, framesR_snoc]
theorem offR_succ (salt : Nat) {L : List Rcd} {k : Nat} (h : k < L.length) : offR salt L (k + 1) = offR salt L k + ((L[k]'h).dat.length + 7) := by
  unfold offR
  rw [framesR_succ salt h, List.length_append, frameR_len]
theorem framesR_at (salt : Nat) {L : List Rcd} {k : Nat} {r : Rcd} (h : L[k]? = some r) : framesR salt (L.take (k + 1)) = framesR salt (L.take k) ++ frameR salt r := by
  obtain ⟨hk, rfl⟩ := List.getElem?_eq_some_iff.1 h
  exact framesR_succ salt hk
theorem offR_at (salt : Nat) {L : List Rcd} {k : Nat} {r : Rcd} (h : L[k]? = some r) : offR salt L (k + 1) = offR salt L k + (r.dat.length + 7) := by
  obtain ⟨hk, rfl⟩ := List.getElem?_eq_some_iff.1 h
  exact offR_succ salt hk
theorem framesR_app (salt : Nat) (m : List Rcd) : ∀ l : List Rcd, framesR salt (l ++ m) = framesR salt l ++ framesR salt m
  | [] => rfl
  | x :: l => by rw [List.cons_append, framesR, framesR_app salt m l, framesR, List.append_assoc]
theorem framesR_bd (salt : Nat) : ∀ l : List Rcd, (∀ r ∈ l, r.dat.length ≤ 300) → (framesR salt l).length ≤ 307 * l.length
  | [], _ => Nat.le_refl _
  | x :: l, h => by
    have h1 := h x (by simp)
    have h2 := framesR_bd salt l (fun r hr => h r (by simp [hr]))
    rw [framesR, List.length_append, frameR_len, List.length_cons]
    omega
theorem offR_bd (salt : Nat) (L : List Rcd) (k : Nat) (h : ∀ r ∈ L, r.dat.length ≤ 300) (hL : L.length ≤ 30) : offR salt L k ≤ 9210 := by
  have h1 := framesR_bd salt (L.take k) (fun r hr => h r (List.mem_of_mem_take hr))
  have h2 : (L.take k).length ≤ 30 := by rw [List.length_take]; omega
  unfold offR
  omega
theorem offR_all (salt : Nat) (L : List Rcd) (k : Nat) (h : L.length ≤ k) : offR salt L k = (framesR salt L).length := by unfold offR; rw [List.take_of_length_le h]
theorem scan_whole (salt : Nat) (L : List Rcd) (h : ∀ r ∈ L, rokR r = true) : scanR salt (framesR salt L) = (L, (framesR salt L).length) := by
  have e := scan_frames salt [] L h
  rw [List.append_nil, scan_nil] at e
  rw [e]
  simp
/-- Scan of frames that are cut off. -/
theorem scan_cut_at (salt : Nat) (L : List Rcd) (h : ∀ r ∈ L, rokR r = true) (j cut : Nat) (h1 : offR salt L j ≤ cut) (h2 : L.length ≤ j ∨ j < L.length ∧ cut < offR salt L (j + 1)) :
    scanR salt ((framesR salt L).take cut) = (L.take j, offR salt L j) := by
  rcases h2 with h2 | ⟨hl, h2⟩
  · have e : offR salt L j = (framesR salt L).length := offR_all salt L j h2
    rw [List.take_of_length_le (by rw [← e]; exact h1), scan_whole salt L h, List.take_of_length_le h2, e]
  · have e : framesR salt L = framesR salt (L.take j) ++ (frameR salt (L[j]'hl) ++ framesR salt (L.drop (j + 1))) := by
      conv => lhs; rw [← List.take_append_drop j L, framesR_app, List.drop_eq_getElem_cons hl]
      rw [framesR]
    rw [offR_succ salt hl] at h2
    have ho : (framesR salt (L.take j)).length = offR salt L j := rfl
    rw [e, List.take_append, ho, List.take_of_length_le (by rw [ho]; exact h1), List.take_append_of_le_length (by rw [frameR_len]; omega)]
    rw [scan_frames salt _ (L.take j) (fun r hr => h r (List.mem_of_mem_take hr)), scan_cut salt (L[j]'hl) _ (h _ (List.getElem_mem hl)) (by omega)]
    simp [ho]

theorem info_int14 : (Tryd.prog.info? 3).map (fun i => (i.zero, i.size, i.bytes)) = some (some (.int .i64 0), 1, 8) := by kernel_rfl
theorem size_rec14 (W : World) : (sizeOf 25).run Tryd.prog W = .ok 2 W := by kernel_rfl
/-- 'l[:k]' of records. -/
theorem cut_hR (A : Option Addr) (n c k : Nat) (hk : k ≤ n) (hc : n ≤ c) : ∃ c', (∀ W : World, (Instr.slice 39 (.slice A n c) none (some (.int .i64 (k : Int))) none).run Tryd.prog W = .ok (.slice A k c') W) ∧ k ≤ c' := by
  have hz := size_rec14
  have ht := Tryd.underlying39
  by_cases hc0 : c = 0
  · have hk0 : k = 0 := by omega
    subst hk0 hc0
    refine ⟨0, fun W => ?_, by omega⟩
    go_simp
  · refine ⟨c, fun W => ?_, by omega⟩
    go_simp
    intro h
    omega
theorem RwC.take {w : World} {B n k : Nat} {A : Option Addr} {l : List Rcd} (h : RwC w B A n l) (hk : k ≤ n) : RwC w B A k (l.take k) := by
  refine ⟨by rw [List.length_take, h.1]; omega, fun h0 => ?_⟩
  obtain ⟨b, o, e, hb, hx⟩ := h.2 (by omega)
  refine ⟨b, o, e, hb, fun i r hi => hx i r ?_⟩
  rcases Nat.lt_or_ge i k with hik | hik
  · rwa [List.getElem?_take_of_lt hik] at hi
  · rw [List.getElem?_eq_none (by rw [List.length_take]; omega)] at hi; cases hi

/-- A row of the call's own that holds xs. -/
def Ov14 (w : World) (base : Nat) (v : Value) (xs : List Value) : Prop := w.ownsRow base 3 1 v xs.length xs
section
variable {w w' : World} {base : Nat} {v v' : Value} {xs : List Value} {l : List UInt8}
theorem Ov14.alloc (h : Ov14 w base v xs) (o : Obj) : Ov14 (w.alloc o) base v xs := World.ownsRow.alloc h o
theorem Ov14.below (h : Ov14 w base v xs) (hb : Below w.heap.size w w') : Ov14 w' base v xs := World.ownsRow.kept h (row := none) ⟨hb.os, hb.tape, hb.output, hb.size, fun k hk _ => hb.block k hk⟩ (by cases v.ownBlock <;> simp)
/-- Rows of two types lie apart. -/
theorem apart14 (h : Ov14 w base v xs) (h' : Ob w base 5 v' l) : (v.ownBlock = none ∨ v.ownBlock ≠ v'.ownBlock) ∧ (v'.ownBlock = none ∨ v'.ownBlock ≠ v.ownBlock) := by
  rcases h.2 with ⟨hv, -⟩ | ⟨b, cap, cur, hv, -, hg, -⟩
  · rw [hv]
    refine ⟨.inl rfl, ?_⟩
    rcases h'.2 with ⟨hv', -⟩ | ⟨b', cap', cur', hv', -, -, -⟩
    · rw [hv']; exact .inl rfl
    · rw [hv']; exact .inr (fun e => by cases e)
  · have hne := h'.not_at14 hg (by decide)
    rw [hv]
    exact ⟨.inr fun e => hne e.symm, .inr hne⟩
theorem Ov14.form (h : Ov14 w base v xs) : ∃ A cap, v = .slice A xs.length cap ∧ xs.length ≤ cap ∧ (0 < xs.length → ∃ b, A = some ⟨b, 0, none⟩ ∧ base ≤ b ∧ b < w.heap.size ∧ ∀ j u, xs[j]? = some u → w.cell? ⟨b, j, none⟩ = some u) := by
  rcases h.2 with ⟨hv, h0⟩ | ⟨b, cap, cur, hv, hbg, hg, hn, hm, -⟩
  · exact ⟨none, 0, by rw [hv, h0], by omega, fun h1 => by omega⟩
  · refine ⟨some ⟨b, 0, none⟩, cap, hv, hn, fun _ => ⟨b, rfl, hbg, (World.ownsRow.lt h b (by rw [hv]; rfl)).2, fun j u hj => ?_⟩⟩
    have hc := World.ownsRow.cells h (g := b) (by rw [hv]; rfl) j u hj
    unfold Addr.add at hc
    by_cases h0 : j = 0
    · subst h0; simpa using hc
    · rw [if_neg h0] at hc; simpa using hc
end
/-- append of one number. -/
theorem wpList_app14 {w : World} {ops : Array Oper} {rest : List Oper} {o : Oper} {a : Act} {Q : Exit → Act → World → Prop} (hgd : o.guard = none) (s x : Operand)
    (ho : o.op = .call { callee := .builtin .append, args := #[s, x], argTypes := #[44, 44] })
    (base : Nat) (v : Value) (xs : List Value) (hs : a.eval s = v) (hown : Ov14 w base v xs) (b c : Nat) (z : Int) (hx : a.eval x = .slice (some ⟨b, 0, none⟩) 1 c) (hu : w.cell? ⟨b, 0, none⟩ = some (.int .i64 z))
    (hlen : xs.length ≤ 1000000) (hbase : base ≤ w.heap.size)
    (h : ∀ v' w', Ov14 w' base v' (xs ++ [.int .i64 z]) → w.grownBy w' v.ownBlock → wpList Tryd.prog ops Q rest (a.put o.dst v') w') : wpList Tryd.prog ops Q (o :: rest) a w := by
  obtain ⟨i, hi, hi0, hi1, hi2⟩ := info_parts info_int14
  refine Go.wpList_append_own_at w hgd s x 44 ho base 3 i (.int .i64 0) 1 8 Tryd.underlying44 hi hi0 hi1 hi2 rfl (by decide) v xs.length xs hs hown ⟨b, 0, none⟩ 1 c [.int .i64 z] hx rfl (fun j u' hj => ?_) (fun u' hu' => ?_) (by unfold maxLen; omega) (by omega) hbase fun v' w' h2 h3 _ h5 => h v' w' (by unfold Ov14; rw [List.length_append, List.length_singleton]; exact h2) h3
  · match j, hj with
    | 0, hj =>
      simp at hj
      subst hj
      exact hu
    | j + 1, hj => simp at hj
  · simp at hu'; subst hu'; rfl
theorem grown_trans14 {w0 W w' : World} {v : Value} {xs : List Value} (hg : W.grownBy w' v.ownBlock) (hown : Ov14 W w0.heap.size v xs) (hb : Below w0.heap.size w0 W) : Below w0.heap.size w0 w' :=
  hb.trans ⟨hg.os, hg.tape, hg.output, hg.size, fun k hk => hg.block k (Nat.lt_of_lt_of_le hk hb.size) (fun e => by have := (World.ownsRow.lt hown k e.symm).1; omega)⟩
theorem row1_14 (w : World) {u : Value} {t : TypeId} : (w.alloc (.cells #[u] t)).cell? ⟨w.heap.size, 0, none⟩ = some u := by
  rw [World.cell?_alloc_at _ _ _ _ rfl]
  rfl
/-- Where the frames begin, as numbers. -/
def offsV (salt : Nat) (L : List Rcd) (k : Nat) : List Value := (List.range (k + 1)).map fun j => .int .i64 (offR salt L j : Int)
theorem offsV_len (salt : Nat) (L : List Rcd) (k : Nat) : (offsV salt L k).length = k + 1 := by simp [offsV]
theorem offsV_zero (salt : Nat) (L : List Rcd) : offsV salt L 0 = [.int .i64 0] := by simp [offsV, offR, framesR]
theorem offsV_succ (salt : Nat) (L : List Rcd) (k : Nat) : offsV salt L (k + 1) = offsV salt L k ++ [.int .i64 (offR salt L (k + 1) : Int)] := by
  unfold offsV
  rw [List.range_succ (n := k + 1), List.map_append]
  rfl
theorem offsV_at (salt : Nat) (L : List Rcd) {j k : Nat} (h : j ≤ k) : (offsV salt L k)[j]? = some (.int .i64 (offR salt L j : Int)) := by
  unfold offsV
  rw [List.getElem?_map, List.getElem?_range (by omega)]
  rfl
end Go.Proofs.YtlkppnghfgiapaaDoor
