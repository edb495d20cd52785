/- What must come at any rate, of layer 13. -/
import Derived.Test.YtchcimckffonjaaDscH
namespace Go.Proofs.Ytchcimckffonjaa
open Go.RowKit

section
variable {w0 w w1 : World} {g : Nat} {S : List (List UInt8)} {ws : List (Nat × List UInt8)}
theorem cat_write_end (at_ : Int) (h : CAt w0 w g ⟨S, ws, true, -1⟩) (hb : Below w.heap.size w w1) {t : TypeId} {v : Value} {l : List UInt8} (ho : Ob w1 w.heap.size t v l) (hw : ws.length ≤ 1000000) (h0 : 0 ≤ at_) (h1 : at_ < (S.length : Int)) (hl : l.length = 64) :
    Calls Try.prog 10 #[.pointer (some ⟨g, 0, none⟩), .int .i64 at_, v] w1 fun e w' => e = .returned (.int .i64 0) ∧ CAt w0 w' g ⟨S, ws ++ [(at_.toNat, l)], true, -1⟩ := by
  have h2 := cat_write at_ h hb ho hw
  rw [Cd.write_end rfl rfl h0 h1 hl] at h2
  exact h2
theorem cat_flush_end (h : CAt w0 w g ⟨S, ws, true, -1⟩) (hw : ws.length ≤ 1000000) :
    Calls Try.prog 12 #[.pointer (some ⟨g, 0, none⟩)] w fun e w' => e = .returned (.int .i64 0) ∧ CAt w0 w' g ⟨layW S ws, [], true, -1⟩ := by
  have h2 := cat_flush h hw
  rw [Cd.flush_end rfl rfl] at h2
  exact h2
theorem cat_read_end (a : Nat) (h : CAt w0 w g ⟨S, ws, true, -1⟩) (hw : ws.length ≤ 1000000) (ha : a < S.length) :
    Calls Try.prog 13 #[.pointer (some ⟨g, 0, none⟩), .int .i64 (a : Int)] w fun e w' => CAt w0 w' g ⟨S, ws, true, -1⟩ ∧ Below w.heap.size w w' ∧ ∃ v l, (layW S ws)[a]? = some l ∧ e = .returned (.tuple #[v, .int .i64 0]) ∧ Ob w' w.heap.size 5 v l := by
  refine (cat_read (a : Int) h hw).mono fun e w' ⟨h1, h2, h3⟩ => ⟨h1, h2, ?_⟩
  rcases h3 with ⟨h4, -⟩ | ⟨-, h4, -⟩ | ⟨-, -, -, h4⟩
  · cases h4
  · exact absurd h4 (by show ¬ (_ ∨ (S.length : Int) ≤ _); omega)
  · rw [Int.toNat_natCast] at h4; exact h4
theorem sec64_any (fill : UInt8) (w : World) : Calls Try.prog 11 #[.int .u8 (fill.toNat : Int), .int .i64 64] w fun e w' => ∃ v, e = .returned v ∧ Ob w' w.heap.size 5 v (secB fill 64) ∧ Below w.heap.size w w' := sector_any fill 64 w
end
theorem layW_one (s a : List UInt8) : layW (List.replicate 2 a) [(0, s)] = [s, a] := rfl
/-- What the heads are good for. -/
def HG13 (w0 : World) (e : Ending) (w' : World) : Prop := e = .returned (.bool true) ∧ Below w0.heap.size w0 w'

set_option maxRecDepth 100000 in
set_option maxHeartbeats 4000000 in
theorem heads13_any (w0 : World) : Calls Try.prog 8 #[] w0 (HG13 w0) := by
  obtain ⟨s1, hs1⟩ : ∃ s, s = secB 1 64 := ⟨_, rfl⟩
  obtain ⟨s9, hs9⟩ : ∃ s, s = secB 9 64 := ⟨_, rfl⟩
  have L1 : Hid (s1.length = 64) := by show _ = _; rw [hs1, secB_64]
  have L9 : Hid (s9.length = 64) := by show _ = _; rw [hs9, secB_64]
  have A1 : Hid (s1.getD 0 0 = 1) := by show _ = _; rw [hs1]; rfl
  have E1 := Lib.hid hs1
  have E9 := Lib.hid hs9
  clear hs1 hs9
  go_enter Try.func8, Try.ntmps8
  go_wp2_with fail
  refine (cat_new 2 (Below.refl w0.heap.size w0)).mono ?_
  rintro e w1 (⟨-, -, g, rfl, hc⟩ | ⟨hn, -, -⟩)
  case inr => exact absurd ⟨by decide, by decide⟩ hn
  have C1 := Lib.hid hc
  clear hc
  go_wp2_with fail
  refine (cnew_any 0 w1).mono ?_
  rintro e w2 (⟨hn, -⟩ | ⟨-, rfl, hb⟩)
  case inl => exact absurd hn (by decide)
  have C2 : Hid (CAt w0 w2 g ⟨List.replicate 2 z64, [], true, -1⟩) := C1.out.below hb
  clear hb C1
  go_wp2_with fail
  refine (sec64_any 1 w2).mono ?_
  rintro e w3 ⟨v, rfl, ho, hb⟩
  have O3 := Lib.hid (And.intro ho hb)
  clear ho hb
  go_wp2_with fail
  refine (cat_write_end 0 C2.out O3.out.2 O3.out.1 (by decide) (by decide) (by decide) (secB_64 1)).mono ?_
  rintro e w4 ⟨rfl, hc⟩
  have C4 : Hid (CAt w0 w4 g ⟨List.replicate 2 z64, [(0, s1)], true, -1⟩) := by show CAt _ _ _ _; rw [E1.out]; exact hc
  clear hc C2 O3
  go_wp2_with fail
  refine (cat_flush_end C4.out (by simp)).mono ?_
  rintro e w5 ⟨rfl, hc⟩
  have C5 : Hid (CAt w0 w5 g ⟨[s1, z64], [], true, -1⟩) := hc
  clear hc C4
  go_wp2_with fail
  refine (sec64_any 9 w5).mono ?_
  rintro e w6 ⟨v, rfl, ho, hb⟩
  have O6 := Lib.hid (And.intro ho hb)
  clear ho hb
  go_wp2_with fail
  refine (cat_write_end 0 C5.out O6.out.2 O6.out.1 (by decide) (by decide) (by simp) (secB_64 9)).mono ?_
  rintro e w7 ⟨rfl, hc⟩
  have C7 : Hid (CAt w0 w7 g ⟨[s1, z64], [(0, s9)], true, -1⟩) := by show CAt _ _ _ _; rw [E9.out]; exact hc
  clear hc C5 O6
  go_wp2_with fail
  refine (cat_waiting C7.out).mono ?_
  rintro e w8 ⟨rfl, rfl⟩
  go_wp2_with fail
  refine (cat_crash (ks := []) C7.out (by simp) rfl (fun h => absurd h (by decide))).mono ?_
  rintro e w8 ⟨rfl, hc⟩
  have C8 : Hid (CAt w0 w8 g ⟨[s1, z64], [], false, -1⟩) := hc
  clear hc C7
  go_wp2_with fail
  refine (cat_read 0 C8.out (by simp)).mono ?_
  rintro e w9 ⟨hc, -, hr⟩
  obtain rfl : e = .returned (.tuple #[.slice none 0 0, .int .i64 131]) := by
    rcases hr with ⟨-, h⟩ | ⟨h, -⟩ | ⟨h, -⟩
    · exact h
    · cases h
    · cases h
  have C9 := Lib.hid hc
  clear hc hr C8
  go_wp2_with fail
  refine (cat_start C9.out).mono ?_
  rintro e w10 ⟨rfl, hc⟩
  have C10 : Hid (CAt w0 w10 g ⟨[s1, z64], [], true, -1⟩) := hc
  clear hc C9
  go_wp2_with fail
  refine (cat_read_end 0 C10.out (by simp) (by simp)).mono ?_
  rintro e w11 ⟨hc, hb, v, l, hl, rfl, ho⟩
  obtain rfl : s1 = l := by injection hl
  obtain ⟨ga, ca, rfl, -, -, -⟩ := ho.form (by rw [L1.out]; decide)
  rw [L1.out]
  have cell : w11.cell? ⟨ga, 0, none⟩ = some (.int .u8 1) := by
    have h := ho.cell (g := ga) (n := s1.length) rfl (j := 0) (by rw [L1.out]; decide)
    rw [A1.out] at h
    exact h
  have C11 := Lib.hid hc
  clear hc hb hl ho
  go_wp2_with fail
  refine (cat_write_nil 2 C11.out (by simp)).mono ?_
  rintro e w12 ⟨rfl, hc⟩
  rw [Cd.write_off rfl (.inr (by simp))] at hc ⊢
  have C12 := Lib.hid hc
  clear hc
  go_wp2_with fail
  refine (cat_write_nil 1 C12.out (by simp)).mono ?_
  rintro e w13 ⟨rfl, hc⟩
  rw [Cd.write_short rfl (by decide) (by simp) (by simp)] at hc ⊢
  have C13 := Lib.hid hc
  clear hc
  go_wp2_with fail
  go_ret
  exact (show HG13 _ _ _ from ⟨rfl, C13.out.base⟩)
end Go.Proofs.Ytchcimckffonjaa
