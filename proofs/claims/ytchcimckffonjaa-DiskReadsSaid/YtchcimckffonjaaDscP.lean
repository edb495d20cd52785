/- DiskReads: a disk, and a row of numbers beside it. -/
import Derived.Test.YtchcimckffonjaaDscK
namespace Go.Proofs.Ytchcimckffonjaa
open Go.RowKit

/-- Numbers as cells. -/
def nv (x : Nat) : Value := .int .i64 (x : Int)
/-- A disk, and beside it block gl, a row of numbers. -/
def CRow (w0 w : World) (g : Nat) (D : Cd) (gl : Nat) (xs : List Nat) : Prop := ∃ F, CDk w F w0.heap.size g D ∧ Below w0.heap.size w0 w ∧ ¬ F gl ∧ w0.heap.size ≤ gl ∧ w.heap[gl]? = some (.cells (xs.map nv).toArray 3 (0, 0))
section
variable {w0 w w1 : World} {g gl : Nat} {D : Cd} {xs : List Nat}
theorem CRow.base (h : CRow w0 w g D gl xs) : Below w0.heap.size w0 w := by obtain ⟨F, h1, h2, -⟩ := h; exact h2
theorem CRow.cat (h : CRow w0 w g D gl xs) : CAt w0 w g D := by obtain ⟨F, h1, h2, -⟩ := h; exact ⟨F, h1, h2⟩
theorem CRow.below (h : CRow w0 w g D gl xs) (hb : Below w.heap.size w w1) : CRow w0 w1 g D gl xs := by
  obtain ⟨F, h1, h2, h3, h4, h5⟩ := h
  exact ⟨F, h1.below hb, h2.trans (hb.mono h2.size), h3, h4, (hb.block gl (Array.getElem?_eq_some_iff.1 h5).1).trans h5⟩
theorem CRow.cell (h : CRow w0 w g D gl xs) {i : Nat} (hi : i < xs.length) : w.cell? ⟨gl, i, none⟩ = some (.int .i64 ((xs.getD i 0 : Nat) : Int)) ∧ w.frozen? ⟨gl, i, none⟩ = false := by
  obtain ⟨F, -, -, -, -, h5⟩ := h
  refine ⟨?_, by simp [World.frozen?, h5]⟩
  rw [cell_of_row w gl _ _ _ _ h5, List.getElem?_toArray, List.getElem?_map, List.getElem?_eq_getElem hi, List.getD_eq_getElem?_getD, List.getElem?_eq_getElem hi]
  rfl
theorem CRow.set (h : CRow w0 w g D gl xs) (i x : Nat) : CRow w0 (w.setCell ⟨gl, i, none⟩ (.int .i64 (x : Int))) g D gl (xs.set i x) := by
  obtain ⟨F, h1, h2, h3, h4, h5⟩ := h
  have hb : Below w0.heap.size w (w.setCell ⟨gl, i, none⟩ (.int .i64 (x : Int))) := ⟨rfl, rfl, rfl, by rw [World.size_setCell]; exact Nat.le_refl _, fun k hk => Below.heap_setCell _ _ _ _ (fun (e : k = gl) => by omega)⟩
  refine ⟨F, h1.same (by rw [World.size_setCell]; exact Nat.le_refl _) (fun k hk => Below.heap_setCell _ _ _ _ (fun (e : k = gl) => h3 (e ▸ hk))), h2.trans hb, h3, h4, ?_⟩
  rw [row_setC h5]
  simp [nv]
theorem CRow.wrote {F : Nat → Prop} {r : Cd × Int} (h2 : Below w0.heap.size w0 w) (h1 : CDk w F w0.heap.size g D) (h3 : ¬ F gl) (h4 : w0.heap.size ≤ gl) (h5 : w.heap[gl]? = some (.cells (xs.map nv).toArray 3 (0, 0))) {e : Ending} {w' : World} (h : CWriteR w F w0.heap.size g r e w') :
    e = .returned (.int .i64 r.2) ∧ CRow w0 w' g r.1 gl xs := by
  obtain ⟨F', q1, q2, q3, q4⟩ := h
  have hl := (Array.getElem?_eq_some_iff.1 h5).1
  refine ⟨q2, F', q1, h2.trans (q3.below h2.size (fun k hk => (h1.fit k hk).1)), fun hf => ?_, h4, (q3.block gl hl h3).trans h5⟩
  rcases q4 gl hf with h | h
  · exact h3 h
  · omega
theorem crow_write (at_ : Int) (h : CRow w0 w g D gl xs) (hb : Below w.heap.size w w1) {t : TypeId} {v : Value} {l : List UInt8} (ho : Ob w1 w.heap.size t v l) (hw : D.waits.length ≤ 1000000) :
    Calls Try.prog 10 #[.pointer (some ⟨g, 0, none⟩), .int .i64 at_, v] w1 fun e w' => e = .returned (.int .i64 (D.write at_ l).2) ∧ CRow w0 w' g (D.write at_ l).1 gl xs := by
  obtain ⟨F, h1, h2, h3, h4, h5⟩ := h
  obtain ⟨A, c, rfl, -, -, hr⟩ := ho.rd
  refine (cwrite_any w1 at_ (h1.below hb) hr (Nat.le_refl _) (fun ad e hF => ?_) hw).mono fun e w' q => CRow.wrote (h2.trans (hb.mono h2.size)) (h1.below hb) h3 h4 ((hb.block gl (Array.getElem?_eq_some_iff.1 h5).1).trans h5) q
  subst e
  have h6 := (World.ownsRow.lt ho ad.block rfl).1
  have h7 := (h1.fit _ hF).2
  omega
theorem crow_flush (h : CRow w0 w g D gl xs) (hw : D.waits.length ≤ 1000000) :
    Calls Try.prog 12 #[.pointer (some ⟨g, 0, none⟩)] w fun e w' => e = .returned (.int .i64 D.flush.2) ∧ CRow w0 w' g D.flush.1 gl xs := by
  obtain ⟨F, h1, h2, h3, h4, h5⟩ := h
  exact (cflush_any w h1 hw).mono fun e w' q => CRow.wrote h2 h1 h3 h4 h5 q
end
/-- What the sectors are, told by who wrote to them last: of call x - 1, or, of x nought, none. -/
def LastOk (l : List OpD) (S : List (List UInt8)) (ws : List (Nat × List UInt8)) (xs : List Nat) (i : Nat) : Prop :=
  xs.length = S.length ∧ ws.length ≤ i ∧ ∀ a, a < S.length → xs.getD a 0 ≤ i ∧ (layW S ws)[a]? = some (if xs.getD a 0 = 0 then z64 else secB (l.getD (xs.getD a 0 - 1) default).fill 64)
theorem LastOk.start (l : List OpD) (n : Nat) : LastOk l (List.replicate n z64) [] (List.replicate n 0) 0 := by
  refine ⟨by simp, Nat.le_refl _, fun a ha => ?_⟩
  rw [List.length_replicate] at ha
  have e : (List.replicate n 0).getD a 0 = 0 := by rw [List.getD_eq_getElem?_getD, List.getElem?_replicate_of_lt ha]; rfl
  refine ⟨by rw [e]; exact Nat.le_refl _, ?_⟩
  rw [e, if_pos rfl, layW_nil, List.getElem?_replicate_of_lt ha]
theorem LastOk.write {l : List OpD} {S : List (List UInt8)} {ws : List (Nat × List UInt8)} {xs : List Nat} {i q : Nat} (h : LastOk l S ws xs i) (hq : q < S.length) : LastOk l S (ws ++ [(q, secB (l.getD i default).fill 64)]) (xs.set q (i + 1)) (i + 1) := by
  refine ⟨by rw [List.length_set]; exact h.1, by rw [List.length_append]; simp; exact h.2.1, fun a ha => ?_⟩
  obtain ⟨h1, h2⟩ := h.2.2 a ha
  rw [layW_snoc]
  by_cases e : a = q
  · subst e
    have e2 : (xs.set a (i + 1)).getD a 0 = i + 1 := by rw [List.getD_eq_getElem?_getD, List.getElem?_set_self (by rw [h.1]; exact hq)]; rfl
    rw [e2, if_neg (by omega), List.getElem?_set_self (by rw [layW_len]; exact hq)]
    exact ⟨Nat.le_refl _, rfl⟩
  · have e2 : (xs.set q (i + 1)).getD a 0 = xs.getD a 0 := by rw [List.getD_eq_getElem?_getD, List.getElem?_set_ne (Ne.symm e), ← List.getD_eq_getElem?_getD]
    rw [e2, List.getElem?_set_ne (Ne.symm e)]
    exact ⟨by omega, h2⟩
theorem LastOk.flush {l : List OpD} {S : List (List UInt8)} {ws : List (Nat × List UInt8)} {xs : List Nat} {i : Nat} (h : LastOk l S ws xs i) : LastOk l (layW S ws) [] xs i :=
  ⟨by rw [layW_len]; exact h.1, Nat.zero_le _, fun a ha => by rw [layW_nil]; rw [layW_len] at ha; exact h.2.2 a ha⟩
end Go.Proofs.Ytchcimckffonjaa
