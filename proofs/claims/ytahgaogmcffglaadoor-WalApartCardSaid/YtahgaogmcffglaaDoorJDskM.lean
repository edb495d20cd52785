/- A disk, plain: its sectors, and the writes that wait. No program's number stands here. -/
import Derived.RowKit
namespace Go.Proofs.YtahgaogmcffglaaDoor
open Go.RowKit

/-- A sector's bytes: from fill on, rising. -/
def secB (fill : UInt8) (size : Nat) : List UInt8 := (List.range (min size 100)).map fun i => fill + UInt8.ofNat i
theorem secB_len (fill : UInt8) (size : Nat) : (secB fill size).length = min size 100 := by simp [secB]
theorem secB_64 (fill : UInt8) : (secB fill 64).length = 64 := by rw [secB_len]; rfl
/-- A disk of sectors S, with the writes ws waiting. -/
structure Dk where
  secs : List (List UInt8)
  waits : List (Nat × List UInt8)
  dead : Bool
  armed : Bool
  left : Int
/-- What sectors are with writes done. -/
def layW (S : List (List UInt8)) (ws : List (Nat × List UInt8)) : List (List UInt8) := ws.foldl (fun S w => S.set w.1 w.2) S
theorem layW_nil (S : List (List UInt8)) : layW S [] = S := rfl
theorem layW_snoc (S : List (List UInt8)) (ws : List (Nat × List UInt8)) (w : Nat × List UInt8) : layW S (ws ++ [w]) = (layW S ws).set w.1 w.2 := by simp [layW, List.foldl_append]
theorem layW_cons (S : List (List UInt8)) (ws : List (Nat × List UInt8)) (w : Nat × List UInt8) : layW S (w :: ws) = layW (S.set w.1 w.2) ws := rfl
theorem layW_len : ∀ (ws : List (Nat × List UInt8)) (S : List (List UInt8)), (layW S ws).length = S.length
  | [], _ => rfl
  | w :: ws, S => by rw [layW_cons, layW_len ws]; simp
theorem layW_all {n : Nat} : ∀ (ws : List (Nat × List UInt8)) (S : List (List UInt8)), (∀ s ∈ S, s.length = n) → (∀ w ∈ ws, w.2.length = n) → ∀ s ∈ layW S ws, s.length = n
  | [], _, h, _ => h
  | w :: ws, S, h, hw => by
    rw [layW_cons]
    refine layW_all ws _ (fun s hs => ?_) fun x hx => hw x (by simp [hx])
    rcases List.mem_or_eq_of_mem_set hs with h1 | h1
    · exact h s h1
    · subst h1; exact hw w (by simp)
/-- The last write to a sector is what it has. -/
theorem layW_at : ∀ (ws : List (Nat × List UInt8)) (S : List (List UInt8)) (i : Nat), i < S.length → (layW S ws)[i]? = (match (ws.filter fun w => w.1 == i).getLast? with | some w => some w.2 | none => S[i]?)
  | [], _, _, _ => rfl
  | w :: ws, S, i, hi => by
    rw [layW_cons, layW_at ws _ i (by simpa using hi)]
    by_cases e : w.1 = i
    · rw [List.filter_cons_of_pos (by simpa using e)]
      cases hf : (ws.filter fun w => w.1 == i) with
      | nil =>
        subst e
        simp [hi]
      | cons a l =>
        simp [List.getLast?_cons]
    · rw [List.filter_cons_of_neg (by simpa using e), List.getElem?_set_ne e]
/-- What a torn write leaves of a sector. -/
def torn (k : Int) (old new : List UInt8) : List UInt8 := if k = 1 then new else if k = 2 then new.take 32 ++ old.drop 32 else if k = 3 then old.take 32 ++ new.drop 32 else old
def tornW (S : List (List UInt8)) : List (Nat × List UInt8) → List Int → List (List UInt8)
  | w :: ws, k :: ks => tornW (S.set w.1 (torn k (S[w.1]?.getD []) w.2)) ws ks
  | _, _ => S
theorem tornW_nil (S : List (List UInt8)) (ws : List (Nat × List UInt8)) : tornW S ws [] = S := by cases ws <;> rfl
theorem tornW_len : ∀ (ws : List (Nat × List UInt8)) (ks : List Int) (S : List (List UInt8)), (tornW S ws ks).length = S.length
  | [], _, _ => by unfold tornW; rfl
  | _ :: _, [], _ => rfl
  | w :: ws, k :: ks, S => by rw [tornW, tornW_len ws ks]; simp
theorem torn_len {k : Int} {old new : List UInt8} (h1 : old.length = 64) (h2 : new.length = 64) : (torn k old new).length = 64 := by
  unfold torn
  split
  · exact h2
  · split
    · simp; omega
    · split
      · simp; omega
      · exact h1
/-- Half by half, a sector is one of those that P names. -/
def Halves (P : List UInt8 → Prop) (s : List UInt8) : Prop := s.length = 64 ∧ (∃ a, P a ∧ s.take 32 = a.take 32) ∧ ∃ b, P b ∧ s.drop 32 = b.drop 32
theorem Halves.of {P : List UInt8 → Prop} {s : List UInt8} (h : P s) (hl : s.length = 64) : Halves P s := ⟨hl, ⟨s, h, rfl⟩, ⟨s, h, rfl⟩⟩
theorem Halves.torn {P : List UInt8 → Prop} {s b : List UInt8} (k : Int) (h : Halves P s) (hb : P b) (hl : b.length = 64) : Halves P (torn k s b) := by
  refine ⟨torn_len h.1 hl, ?_⟩
  obtain ⟨h0, ⟨a1, p1, e1⟩, ⟨a2, p2, e2⟩⟩ := h
  unfold Proofs.YtahgaogmcffglaaDoor.torn
  split
  · exact ⟨⟨b, hb, rfl⟩, ⟨b, hb, rfl⟩⟩
  · split
    · refine ⟨⟨b, hb, ?_⟩, ⟨a2, p2, ?_⟩⟩
      · have e : (b.take 32).length = 32 := by rw [List.length_take]; omega
        rw [List.take_append_of_le_length (by omega), List.take_of_length_le (by omega)]
      · have e : (b.take 32).length = 32 := by rw [List.length_take]; omega
        rw [List.drop_append_of_le_length (by omega), ← e2, List.drop_eq_nil_of_le (by omega)]; rfl
    · split
      · refine ⟨⟨a1, p1, ?_⟩, ⟨b, hb, ?_⟩⟩
        · have e : (s.take 32).length = 32 := by rw [List.length_take]; omega
          rw [List.take_append_of_le_length (by omega), List.take_of_length_le (by omega), ← e1]
        · have e : (s.take 32).length = 32 := by rw [List.length_take]; omega
          rw [List.drop_append_of_le_length (by omega), List.drop_eq_nil_of_le (by omega)]; rfl
      · exact ⟨⟨a1, p1, e1⟩, ⟨a2, p2, e2⟩⟩
/-- P13.3: one sector, some writes to it, some kept, some by halves. -/
theorem tornW_one {P : List UInt8 → Prop} : ∀ (ws : List (Nat × List UInt8)) (ks : List Int) (s : List UInt8), (∀ w ∈ ws, w.1 = 0 ∧ P w.2 ∧ w.2.length = 64) → Halves P s → ∃ t, tornW [s] ws ks = [t] ∧ Halves P t
  | [], _, s, _, h => ⟨s, by unfold tornW; rfl, h⟩
  | _ :: _, [], s, _, h => ⟨s, rfl, h⟩
  | w :: ws, k :: ks, s, hw, h => by
    obtain ⟨h0, h1, h2⟩ := hw w (by simp)
    rw [tornW, h0]
    exact tornW_one ws ks _ (fun x hx => hw x (by simp [hx])) (h.torn k h1 h2)
/-- P13.4: sector i written with what f says of it, for all of them, and done. -/
theorem layW_fill (f : Nat → List UInt8) (S : List (List UInt8)) : ∀ n, n ≤ S.length → layW S ((List.range n).map fun i => (i, f i)) = (List.range n).map f ++ S.drop n
  | 0, _ => by simp [layW]
  | n + 1, h => by
    rw [List.range_succ, List.map_append, List.map_append, List.map_singleton, List.map_singleton, layW_snoc, layW_fill f S n (by omega), List.set_append_right _ _ (by simp), List.length_map, List.length_range, Nat.sub_self, List.drop_eq_getElem_cons (by omega), List.set_cons_zero, List.append_assoc]
    rfl
end Go.Proofs.YtahgaogmcffglaaDoor
