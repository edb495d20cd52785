/- Tables from Int to ByteArray: the state, a look-up. (Made by gen/bagt.py.) -/
import Derived.Test.YtkflekaibfkicaaBagM
namespace Go.Proofs.Ytkflekaibfkicaa
open Go.RowKit Go.Maps

/-- v is a map that holds T. -/
def nMp (B : Nat) (w : World) (v : Value) (N : Nat) (T : Int → Option ByteArray) : Prop :=
  (v = .map none ∧ ∀ k, T k = none) ∨ ∃ b D, v = .map (some b) ∧ B ≤ b ∧ w.ownsMap Try.prog 65 nrd b N D ∧ DatIs Try.prog 65 nmk nenc D T
/-- Block g is a table that holds T. -/
structure nTSt (B : Nat) (w : World) (g N : Nat) (T : Int → Option ByteArray) : Prop where
  le : B ≤ g
  fr : w.frozen? ⟨g, 0, none⟩ = false
  st : ∃ v, w.cell? ⟨g, 0, none⟩ = some v ∧ nMp B w v N T
/-- What a look-up answers. -/
def nat (T : Int → Option ByteArray) (k : Int) : Value := match T k with | some x => nen k x | none => nen 0 ⟨#[]⟩
theorem nat_form (T : Int → Option ByteArray) (k : Int) : ∃ k' v', nat T k = nen k' v' ∧ v' = (T k).getD ⟨#[]⟩ := by
  unfold nat
  cases T k with
  | some x => exact ⟨k, x, rfl, rfl⟩
  | none => exact ⟨_, _, rfl, rfl⟩
section
variable {B g N : Nat} {w w' W : World} {v : Value} {T : Int → Option ByteArray}
theorem nTSt.lt (h : nTSt B w g N T) : g < w.heap.size := by
  obtain ⟨v, hc, _⟩ := h.st
  exact World.block_lt_of_cell? w ⟨g, 0, none⟩ hc
theorem nMp.keep (h : nMp B w v N T) (hk : ∀ (b : Nat) (es : Array MapEntry) (c : Nat), w.heap[b]? = some (Obj.map es c) → W.heap[b]? = some (Obj.map es c)) : nMp B W v N T := by
  rcases h with h | ⟨b, D, h1, h2, ⟨es, clock, hb, hr⟩, h4⟩
  · exact .inl h
  · exact .inr ⟨b, D, h1, h2, ⟨es, clock, hk _ _ _ hb, hr⟩, h4⟩
theorem nMp.below (h : nMp B w v N T) (hb : Below w.heap.size w W) : nMp B W v N T :=
  h.keep fun b es c hc => by rw [hb.block b (Array.getElem?_eq_some_iff.1 hc).1]; exact hc
theorem nTSt.below (h : nTSt B w g N T) (hb : Below w.heap.size w W) : nTSt B W g N T := by
  have hg := h.lt
  obtain ⟨v, hc, hs⟩ := h.st
  have e := hb.block g hg
  exact ⟨h.le, by rw [World.frozen?_of_block (w := w) e]; exact h.fr, v, by rw [World.cell?_of_block (w := w) e]; exact hc, hs.below hb⟩
set_option maxRecDepth 100000 in
theorem nMp.look (h : nMp B w v N T) (k : Int) (hw : (Lit.int .i64 k).wf = true) (hb : Below w.heap.size w W) : (Instr.lookup 24 v (nmk k) true).run Try.prog W = .ok (.tuple #[nat T k, .bool (T k).isSome]) W := by
  obtain ⟨kl, hk⟩ := nkey k hw
  rcases h.below hb with ⟨rfl, h0⟩ | ⟨b, D, rfl, -, ho, hd⟩
  · rw [look_nil true nlaw Try.underlying24 (nzero W) hk]
    simp [nat, h0]
  · obtain ⟨x, ps, hrun, hr⟩ := ho.look_ok nlaw Try.underlying24 (nzero W) (zd := nenc 0 ⟨#[]⟩) (zp := []) (nrd_mk _ _) hk
    obtain ⟨h1, h2⟩ := hd.at_ k kl hk
    rw [hrun, h1]
    obtain ⟨k', x', rfl, he⟩ := nrd_inv hr
    injection he with he _
    have e : nen k' x' = nat T k := by
      unfold nat
      cases hT : T k with
      | some y =>
        rw [h2 y hT] at he
        obtain ⟨rfl, rfl⟩ := nenc_inj he
        rfl
      | none =>
        rw [atKey_of_not_has (by rw [h1, hT]; rfl)] at he
        obtain ⟨rfl, rfl⟩ := nenc_inj he
        rfl
    rw [e]
end

set_option maxRecDepth 100000 in
set_option maxHeartbeats 1000000 in
theorem nplace (k : Int) (w : World) : Calls Try.prog 27 #[.int .i64 k] w fun e w' => e = .returned (nmk k) ∧ Below w.heap.size w w' := by
  have HB := Lib.hid ((Below.refl w.heap.size w).alloc (Nat.le_refl _) (.cells #[.int .i64 k, .bool false] 65))
  go_enter Try.func27, Try.ntmps27
  go_wp2_with fail
  refine bodyPost_ret (v := nmk k) (by simp [results, Try.results27, go_sem, nmk]) rfl ⟨rfl, HB.out⟩
end Go.Proofs.Ytkflekaibfkicaa
