/- What Encode of layer 3's reference returns. -/
import Derived.Test.YtbdjkihgcmebgaaGreatDoorRCborO
import Derived.Test.YtbdjkihgcmebgaaGreatDoorRCborS
import Derived.Test.YtbdjkihgcmebgaaGreatDoorRCborU
namespace Go.Proofs.YtbdjkihgcmebgaaGreatDoor
open Go.RowKit

/-- A call gives back a slice of its own that reads as l, and a number, and leaves what was there. -/
def GivesE (t : TypeId) (l : List UInt8) (c : Int) (w : World) (e : Ending) (w' : World) : Prop := ∃ v, e = .returned (.tuple #[v, .int .i64 c]) ∧ Ob w' w.heap.size t v l ∧ Below w.heap.size w w'

/-- The four cells of a boxed item. -/
theorem box_cells {w w' : World} {c0 c1 c2 c3 : Value} {t : TypeId} (h : Below (w.heap.size + 1) (w.alloc (.cells #[c0, c1, c2, c3] t)) w') :
    w'.cell? ⟨w.heap.size, 0, none⟩ = some c0 ∧ w'.cell? ⟨w.heap.size, 1, none⟩ = some c1 ∧ w'.cell? ⟨w.heap.size, 2, none⟩ = some c2 ∧ w'.cell? ⟨w.heap.size, 3, none⟩ = some c3 :=
  ⟨(h.cell (p := ⟨w.heap.size, 0, none⟩) (Nat.lt_succ_self _)).trans (by simp), (h.cell (p := ⟨w.heap.size, 1, none⟩) (Nat.lt_succ_self _)).trans (by simp), (h.cell (p := ⟨w.heap.size, 2, none⟩) (Nat.lt_succ_self _)).trans (by simp), (h.cell (p := ⟨w.heap.size, 3, none⟩) (Nat.lt_succ_self _)).trans (by simp)⟩
theorem to_box {w w' : World} {o : Obj} (h : Below (w.alloc o).heap.size (w.alloc o) w') : Below (w.heap.size + 1) (w.alloc o) w' := h.mono (by simp)

set_option maxRecDepth 100000 in
set_option maxHeartbeats 2000000 in
theorem rencode_any (x : Itm) (v : Value) (w : World) (B : Nat) (hp : par x ≤ 1000000) (hg : hgt x ≤ 1001) (hlen : Fits x → (wri x).length ≤ 140737488355328) (hB : B ≤ w.heap.size) (h : RdI w B v x) :
    Calls Tryz.prog 47 #[v] w (GivesE 5 (enc x).1 (enc x).2 w) := by
  obtain ⟨k, n, d, l⟩ := x
  have HX := Lib.hid h
  obtain ⟨A, nd, cd, AL, cl, rfl, h1, h2, h3, h4, h5, h7⟩ := h.open
  generalize hX : Itm.mk k n d l = x at *
  clear hX
  have C1 := Lib.hid (fun W (hb : Below w.heap.size w W) => rright_n (par x + 1) x 1000 _ W B (Nat.lt_succ_self _) hg (by omega) (Nat.le_trans hB hb.size) (HX.out.below (hb.mono hB)))
  have C2 := Lib.hid (fun W (hb : Below w.heap.size w W) => rdepth_n (par x + 1) x _ W B (Nat.lt_succ_self _) hp (Nat.le_trans hB hb.size) (HX.out.below (hb.mono hB)))
  have C3 := Lib.hid (fun W (hb : Below w.heap.size w W) => rparts_n (par x + 1) x _ W B (Nat.lt_succ_self _) hp (Nat.le_trans hB hb.size) (HX.out.below (hb.mono hB)))
  have C4 := Lib.hid (fun W (hb : Below w.heap.size w W) (hr : right x = true) (hl : (wri x).length ≤ 140737488355328) => rwrite_n (par x + 1) x _ W B (Nat.lt_succ_self _) hr hl (Nat.le_trans hB hb.size) (HX.out.below (hb.mono hB)))
  have HLEN := Lib.hid hlen
  have hdp := dep_le x
  have B0 := Lib.hid ((Below.refl w.heap.size w).alloc (Nat.le_refl _) (.cells #[.int .i64 k, .int .u64 (n : Int), .slice A nd cd, .slice AL l.length cl] 42))
  generalize l.length = N at *
  clear h1 h4 h7 h hlen
  rcases hr : right x with _ | _
  · rw [show enc x = ([], 2) by unfold enc; rw [if_pos hr]]
    rw [hr] at C1
    clear hr
    go_enter Tryz.func47, Tryz.ntmps47
    go_wp2_with fail
    refine (C1.out _ B0.out).mono ?_
    rintro e w1 ⟨rfl, hb1⟩
    have HB1 := Lib.hid (B0.out.trans (hb1.mono B0.out.size))
    clear hb1
    go_wp2_with fail
    go_ret2
    exact ⟨_, rfl, Ob.nil_ _ _ _, HB1.out⟩
  · rw [hr] at C1
    have HR := Lib.hid hr
    clear hr
    obtain ⟨E1, hE1⟩ : ∃ q, q = (enc x).1 := ⟨_, rfl⟩
    obtain ⟨E2, hE2⟩ : ∃ q, q = (enc x).2 := ⟨_, rfl⟩
    rw [← hE1, ← hE2]
    have HE1 := Lib.hid hE1
    have HE2 := Lib.hid hE2
    clear hE1 hE2
    go_enter Tryz.func47, Tryz.ntmps47
    go_wp2_with fail
    refine (C1.out _ B0.out).mono ?_
    rintro e w1 ⟨rfl, hb1⟩
    have HB1 := Lib.hid (B0.out.trans (hb1.mono B0.out.size))
    have HC1 := Lib.hid (to_box hb1)
    obtain ⟨q0, q1, q2, q3⟩ := box_cells HC1.out
    clear hb1
    go_wp2_with fail
    refine (C2.out _ HB1.out).mono ?_
    rintro e w2 ⟨rfl, hb2⟩
    have HB2 := Lib.hid (HB1.out.trans (hb2.mono HB1.out.size))
    have HZ1 : Hid (w.heap.size + 1 ≤ w1.heap.size) := by show _ ≤ _; have := HC1.out.size; simpa using this
    have HC2 := Lib.hid (HC1.out.trans (hb2.mono HZ1.out))
    clear q0 q1 q2 q3 hb2
    obtain ⟨q0, q1, q2, q3⟩ := box_cells HC2.out
    by_cases hd8 : 8 < dep x
    · have hd8' : decide (8 < dep x) = true := decide_eq_true hd8
      have hd8i : decide ((8 : Int) < (dep x : Int)) = true := decide_eq_true (by omega)
      have he : enc x = ([], 32) := by unfold enc; rw [if_neg (by rw [HR.out]; decide), if_pos (.inl hd8)]
      have h1 := HE1.out
      have h2 := HE2.out
      rw [he] at h1 h2
      subst h1 h2
      clear he
      go_wp2_with fail
      go_ret2
      exact ⟨_, rfl, Ob.nil_ _ _ _, HB2.out⟩
    · have hd8' : decide (8 < dep x) = false := decide_eq_false hd8
      have hd8i : decide ((8 : Int) < (dep x : Int)) = false := decide_eq_false (by omega)
      go_wp2_with fail
      refine (C3.out _ HB2.out).mono ?_
      rintro e w3 ⟨rfl, hb3⟩
      have HB3 := Lib.hid (HB2.out.trans (hb3.mono HB2.out.size))
      have HZ2 : Hid (w.heap.size + 1 ≤ w2.heap.size) := by show _ ≤ _; have := HC2.out.size; simpa using this
      have HC3 := Lib.hid (HC2.out.trans (hb3.mono HZ2.out))
      clear q0 q1 q2 q3 hb3
      obtain ⟨q0, q1, q2, q3⟩ := box_cells HC3.out
      by_cases hp4 : 4096 < par x
      · have he : enc x = ([], 32) := by unfold enc; rw [if_neg (by rw [HR.out]; decide), if_pos (.inr hp4)]
        have h1 := HE1.out
        have h2 := HE2.out
        rw [he] at h1 h2
        subst h1 h2
        clear he
        go_wp2_with fail
        go_ret2
        exact ⟨_, rfl, Ob.nil_ _ _ _, HB3.out⟩
      · have hf : Fits x := ⟨HR.out, by omega, by omega⟩
        have he := enc_ok hf
        have h1 := HE1.out
        have h2 := HE2.out
        rw [he] at h1 h2
        have HL := Lib.hid (HLEN.out hf)
        have H1 := Lib.hid h1
        subst h2
        clear he hf h1
        go_wp2_with fail
        refine (C4.out _ HB3.out HR.out HL.out).mono ?_
        rintro e w4 ⟨v, rfl, ho, hb4⟩
        rw [← H1.out] at ho
        have HO := Lib.hid (ho.weak HB3.out.size)
        have HB4 := Lib.hid (HB3.out.trans (hb4.mono HB3.out.size))
        clear ho hb4 q0 q1 q2 q3
        go_wp2_with fail
        go_ret2
        exact ⟨_, rfl, HO.out, HB4.out⟩
end Go.Proofs.YtbdjkihgcmebgaaGreatDoor
