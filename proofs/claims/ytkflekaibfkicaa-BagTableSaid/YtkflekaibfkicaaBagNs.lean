/- Tables from ByteArray to Int: the state, a look-up. (Made by gen/bagt.py.) -/
import Derived.Test.YtkflekaibfkicaaBagMs
namespace Go.Proofs.Ytkflekaibfkicaa
open Go.RowKit Go.Maps

/-- v is a map that holds T. -/
def sMp (B : Nat) (w : World) (v : Value) (N : Nat) (T : ByteArray → Option Int) : Prop :=
  (v = .map none ∧ ∀ k, T k = none) ∨ ∃ b D, v = .map (some b) ∧ B ≤ b ∧ w.ownsMap Try.prog 80 srd b N D ∧ DatIs Try.prog 80 smk senc D T
/-- Block g is a table that holds T. -/
structure sTSt (B : Nat) (w : World) (g N : Nat) (T : ByteArray → Option Int) : Prop where
  le : B ≤ g
  fr : w.frozen? ⟨g, 0, none⟩ = false
  st : ∃ v, w.cell? ⟨g, 0, none⟩ = some v ∧ sMp B w v N T
/-- What a look-up answers. -/
def sat (T : ByteArray → Option Int) (k : ByteArray) : Value := match T k with | some x => sen k x | none => sen ⟨#[]⟩ 0
theorem sat_form (T : ByteArray → Option Int) (k : ByteArray) : ∃ k' v', sat T k = sen k' v' ∧ v' = (T k).getD 0 := by
  unfold sat
  cases T k with
  | some x => exact ⟨k, x, rfl, rfl⟩
  | none => exact ⟨_, _, rfl, rfl⟩
section
variable {B g N : Nat} {w w' W : World} {v : Value} {T : ByteArray → Option Int}
theorem sTSt.lt (h : sTSt B w g N T) : g < w.heap.size := by
  obtain ⟨v, hc, _⟩ := h.st
  exact World.block_lt_of_cell? w ⟨g, 0, none⟩ hc
theorem sMp.keep (h : sMp B w v N T) (hk : ∀ (b : Nat) (es : Array MapEntry) (c : Nat), w.heap[b]? = some (Obj.map es c) → W.heap[b]? = some (Obj.map es c)) : sMp B W v N T := by
  rcases h with h | ⟨b, D, h1, h2, ⟨es, clock, hb, hr⟩, h4⟩
  · exact .inl h
  · exact .inr ⟨b, D, h1, h2, ⟨es, clock, hk _ _ _ hb, hr⟩, h4⟩
theorem sMp.below (h : sMp B w v N T) (hb : Below w.heap.size w W) : sMp B W v N T :=
  h.keep fun b es c hc => by rw [hb.block b (Array.getElem?_eq_some_iff.1 hc).1]; exact hc
theorem sTSt.below (h : sTSt B w g N T) (hb : Below w.heap.size w W) : sTSt B W g N T := by
  have hg := h.lt
  obtain ⟨v, hc, hs⟩ := h.st
  have e := hb.block g hg
  exact ⟨h.le, by rw [World.frozen?_of_block (w := w) e]; exact h.fr, v, by rw [World.cell?_of_block (w := w) e]; exact hc, hs.below hb⟩
set_option maxRecDepth 100000 in
theorem sMp.look (h : sMp B w v N T) (k : ByteArray) (hw : k.size ≤ maxLen) (hb : Below w.heap.size w W) : (Instr.lookup 48 v (smk k) true).run Try.prog W = .ok (.tuple #[sat T k, .bool (T k).isSome]) W := by
  obtain ⟨kl, hk⟩ := skey k hw
  rcases h.below hb with ⟨rfl, h0⟩ | ⟨b, D, rfl, -, ho, hd⟩
  · rw [look_nil true slaw Try.underlying48 (szero W) hk]
    simp [sat, h0]
  · obtain ⟨x, ps, hrun, hr⟩ := ho.look_ok slaw Try.underlying48 (szero W) (zd := senc ⟨#[]⟩ 0) (zp := []) (srd_mk _ _) hk
    obtain ⟨h1, h2⟩ := hd.at_ k kl hk
    rw [hrun, h1]
    obtain ⟨k', x', rfl, he⟩ := srd_inv hr
    injection he with he _
    have e : sen k' x' = sat T k := by
      unfold sat
      cases hT : T k with
      | some y =>
        rw [h2 y hT] at he
        obtain ⟨rfl, rfl⟩ := senc_inj he
        rfl
      | none =>
        rw [atKey_of_not_has (by rw [h1, hT]; rfl)] at he
        obtain ⟨rfl, rfl⟩ := senc_inj he
        rfl
    rw [e]
end

set_option maxRecDepth 100000 in
set_option maxHeartbeats 1000000 in
theorem splace (k : ByteArray) (w : World) : Calls Try.prog 33 #[.string k] w fun e w' => e = .returned (smk k) ∧ Below w.heap.size w w' := by
  have HB := Lib.hid ((Below.refl w.heap.size w).alloc (Nat.le_refl _) (.cells #[.string k, .bool false] 80))
  go_enter Try.func33, Try.ntmps33
  go_wp2_with fail
  refine bodyPost_ret (v := smk k) (by simp [results, Try.results33, go_sem, smk]) rfl ⟨rfl, HB.out⟩
end Go.Proofs.Ytkflekaibfkicaa
