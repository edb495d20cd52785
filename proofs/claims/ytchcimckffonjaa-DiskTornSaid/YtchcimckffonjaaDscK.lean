/- DiskTorn. -/
import Derived.Test.YtchcimckffonjaaDscO
import Derived.Test.YtchcimckffonjaaSame
namespace Go.Proofs.Ytchcimckffonjaa
open Go.RowKit

theorem Rd.mid13 {w : World} {B n i j : Nat} {A : Option Addr} {l : List UInt8} (h : Rd w B A n l) (hij : i ≤ j) (hj : j ≤ n) : Rd w B (A.map (·.add i)) (j - i) ((l.drop i).take (j - i)) :=
  (h.cut (k := i)).take (by omega)
theorem cut_lh13 {P : Program} {w : World} {B n : Nat} {A : Option Addr} {l : List UInt8} (t e : TypeId) (ht : P.underlying t = some (.slice e)) (hz : ∀ W : World, (sizeOf e).run P W = .ok 1 W) (c : Nat) (h : Rd w B A n l) (x y : Int) (i j : Nat) (hx : x = (i : Int)) (hy : y = (j : Int)) (hij : i < j) (hj : j ≤ n) (hc : n ≤ c) :
    ∃ A' c', (∀ W : World, (Instr.slice t (.slice A n c) (some (.int .i64 x)) (some (.int .i64 y)) none).run P W = .ok (.slice A' (j - i) c') W) ∧ j - i ≤ c' ∧ c' ≤ c ∧ Rd w B A' (j - i) ((l.drop i).take (j - i)) := by
  subst hx hy
  refine ⟨A.map (·.add i), c - i, fun W => ?_, by omega, by omega, h.mid13 (by omega) hj⟩
  have h1 : ¬ c = i := by omega
  have h2 : j ≤ c := by omega
  have h3 : i ≤ j := by omega
  go_simp
/-- A half of a statement's sector. -/
def half (f : UInt8) (p : Nat) : List UInt8 := ((secB f 64).drop p).take 32
/-- What a sector, as it is made, is cut to. -/
theorem sec_cut {w : World} {B : Nat} {v : Value} {f : UInt8} (p : Nat) (hp : p = 0 ∨ p = 32) (ho : Ob w B 5 v (secB f 64)) :
    ∃ A c A' c', v = .slice A 64 c ∧ (∀ W : World, (Instr.slice 33 (.slice A 64 c) (some (.int .i64 (p : Int))) (some (.int .i64 ((p : Int) + 32))) none).run Try.prog W = .ok (.slice A' 32 c') W) ∧ Rd w w.heap.size A' 32 (half f p) := by
  obtain ⟨A, c, rfl, hc, -, hr⟩ := ho.rd
  rw [secB_64] at hc hr ⊢
  obtain ⟨A', c', h1, -, -, h2⟩ := cut_lh13 (P := Try.prog) 33 5 Try.underlying33 size_u8 c hr (p : Int) ((p : Int) + 32) p (p + 32) rfl (by omega) (by omega) (by omega) hc
  rw [show p + 32 - p = 32 by omega] at h1 h2
  exact ⟨A, c, A', c', rfl, h1, h2⟩

set_option maxRecDepth 100000 in
set_option maxHeartbeats 4000000 in
theorem some_any (p : Nat) (f : UInt8) (A : Option Addr) (c : Nat) (hb : List UInt8) (B : Option Addr) (n cb : Nat) (ws : List UInt8) (w : World) (hp : p = 0 ∨ p = 32) (hA : Rd w w.heap.size A 32 hb) (hB : Rd w w.heap.size B n ws) (hn : n ≤ 30) (hx : hb = half f p ∨ ∃ a ∈ ws, hb = half a p) :
    Calls Try.prog 30 #[.slice A 32 c, .int .i64 (p : Int), .int .u8 (f.toNat : Int), .slice B n cb] w fun e w' => e = .returned (.bool true) ∧ Below w.heap.size w w' := by
  have HA := Lib.hid hA
  have HB := Lib.hid hB
  have HP := Lib.hid hp
  have HX := Lib.hid hx
  have wp1 : wrap64 ((p : Int) + 32) = (p : Int) + 32 := by unfold wrap64; omega
  have wp2 : IntKind.i64.wrap ((p : Int) + 32) = (p : Int) + 32 := by rw [IntKind.wrap_i64]; omega
  clear hA hB hp hx
  go_enter Try.func30, Try.ntmps30
  go_wp2_with fail
  refine (sec64_any f w).mono ?_
  rintro e w1 ⟨v, rfl, ho, hb1⟩
  obtain ⟨A1, c1, A2, c2, rfl, cut, hr2⟩ := sec_cut p HP.out ho
  have HR2 := Lib.hid hr2
  have B1 := Lib.hid hb1
  clear ho hb1 hr2
  go_wp2_with fail
  refine (same_any A A2 32 c 32 c2 w.heap.size w1.heap.size hb (half f p) w1 (HA.out.below B1.out) HR2.out).mono ?_
  rintro e w2 ⟨rfl, rfl⟩
  by_cases e0 : hb = half f p
  · have eb : (hb == half f p) = true := by simp [e0]
    rw [eb]
    clear e0 eb cut
    go_wp2_with fail
    go_ret
    exact ⟨rfl, B1.out⟩
  have eb : (hb == half f p) = false := by simpa using e0
  rw [eb]
  have HX2 : Hid (∃ a ∈ ws, hb = half a p) := HX.out.resolve_left e0
  clear e0 eb cut
  go_wp2_with fail
  go_loopw [9] (fun k wr => ∃ i : Nat, i ≤ n ∧ k = .int .i64 i ∧ Hid (Below w.heap.size w wr ∧ ∀ j, j < i → hb ≠ half (ws.getD j 0) p)) (fun k _ => n - (intOf k).toNat)
  case atStart => exact ⟨0, Nat.zero_le _, rfl, B1.out, fun j hj => absurd hj (Nat.not_lt_zero _)⟩
  case round =>
    obtain ⟨i, hi, rfl, HR⟩ := hrel
    by_cases hlt : i < n
    case neg =>
      exfalso
      obtain ⟨a, ha, he⟩ := HX2.out
      obtain ⟨j, hj, rfl⟩ := List.mem_iff_getElem.1 ha
      refine HR.out.2 j (by have := HB.out.1; omega) ?_
      rw [he, List.getD_eq_getElem?_getD, List.getElem?_eq_getElem hj]
      rfl
    have tn : (i : Int) < (n : Int) := by omega
    have i0 : (0 : Int) ≤ (i : Int) := by omega
    obtain ⟨b, o, rfl, hbl, hc⟩ := HB.out.2 (by omega)
    have c0 : wr.cell? ⟨b, o + i, none⟩ = some (.int .u8 ((ws.getD i 0).toNat : Int)) := (HR.out.1.cell (p := ⟨b, o + i, none⟩) hbl).trans (hc i hlt)
    have ea : (⟨b, o, none⟩ : Addr).add i = ⟨b, o + i, none⟩ := add_mk b o i
    obtain ⟨y, hy⟩ : ∃ y, y = ws.getD i 0 := ⟨_, rfl⟩
    rw [← hy] at c0
    have HY := Lib.hid hy
    have HLT := Lib.hid hlt
    clear hc hy hbl
    go_wp2_with fail
    refine (sec64_any y wr).mono ?_
    rintro e w3 ⟨v, rfl, ho, hb3⟩
    obtain ⟨A3, c3, A4, c4, rfl, cut, hr4⟩ := sec_cut p HP.out ho
    have HR4 := Lib.hid hr4
    have B3 : Hid (Below w.heap.size w w3) := HR.out.1.trans (hb3.mono HR.out.1.size)
    clear ho hb3 hr4 c0 ea
    go_wp2_with fail
    refine (same_any A A4 32 c 32 c4 w.heap.size w3.heap.size hb (half y p) w3 (HA.out.below B3.out) HR4.out).mono ?_
    rintro e w4 ⟨rfl, rfl⟩
    by_cases e0 : hb = half y p
    · have eb : (hb == half y p) = true := by simp [e0]
      rw [eb]
      clear e0 eb cut
      go_wp2_with fail
      go_ret
      exact ⟨rfl, B3.out⟩
    have eb : (hb == half y p) = false := by simpa using e0
    rw [eb]
    have H5 : Hid (Below w.heap.size w w3 ∧ ∀ j, j < i + 1 → hb ≠ half (ws.getD j 0) p) := ⟨B3.out, fun j hj => by
      rcases Nat.lt_or_ge j i with h | h
      · exact HR.out.2 j h
      · obtain rfl : j = i := by omega
        rw [← HY.out]; exact e0⟩
    clear e0 eb cut
    go_wp2_with fail
    go_roundw
    case rel => exact ⟨i + 1, by have := HLT.out; omega, by simp, H5⟩
    case measure => simp [intOf]; have := HLT.out; omega
/-- The writes to a lone sector. -/
def lone (ws : List UInt8) : List (Nat × List UInt8) := ws.map fun x => (0, secB x 64)

set_option maxRecDepth 100000 in
set_option maxHeartbeats 8000000 in
theorem diskTorn_walk (f0 : Int) (A : Option Addr) (n c : Nat) (ws : List UInt8) (K : Option Addr) (nk ck : Nat) (ks : List Int) (w : World) (hf : (Lit.int .u8 f0).wf = true) (hA : Rd w w.heap.size A n ws ∧ n ≤ c ∧ c ≤ 140737488351232) (hK : Rz13 w K nk ks ∧ nk ≤ ck ∧ ∀ x ∈ ks, (Lit.int .i64 x).wf = true) :
    Calls Try.prog 6 #[.int .u8 f0, .slice A n c, .slice K nk ck] w fun e w' => e = .returned (.bool true) ∧ Below w.heap.size w w' := by
  obtain ⟨f, rfl⟩ : ∃ f : UInt8, f0 = (f.toNat : Int) := ⟨UInt8.ofNat f0.toNat, (wf_byte hf).symm⟩
  have HA := Lib.hid hA.1
  have HK := Lib.hid hK.1
  clear hf hA hK
  by_cases h30 : (30 : Int) < n
  · go_enter Try.func6, Try.ntmps6
    go_wp2_with fail
    refine (heads13_any w).mono ?_
    rintro e w1 ⟨rfl, hb⟩
    have B1 := Lib.hid hb
    clear hb
    go_wp2_with fail
    go_ret
    exact ⟨rfl, B1.out⟩
  have hn : n ≤ 30 := by omega
  have HN := Lib.hid hn
  go_enter Try.func6, Try.ntmps6
  go_wp2_with fail
  refine (cat_new 1 (Below.refl w.heap.size w)).mono ?_
  rintro e w1 (⟨-, -, g, rfl, hc⟩ | ⟨hn, -, -⟩)
  case inr => exact absurd ⟨by decide, by decide⟩ hn
  have C1 : Hid (CAt w w1 g ⟨[z64], [], true, -1⟩) := hc
  clear hc
  go_wp2_with fail
  refine (sec64_any f w1).mono ?_
  rintro e w2 ⟨v, rfl, ho, hb⟩
  have O2 := Lib.hid (And.intro ho hb)
  clear ho hb
  go_wp2_with fail
  refine (cat_write_end 0 C1.out O2.out.2 O2.out.1 (by decide) (by decide) (by simp) (secB_64 f)).mono ?_
  rintro e w3 ⟨rfl, hc⟩
  have C3 : Hid (CAt w w3 g ⟨[z64], [(0, secB f 64)], true, -1⟩) := hc
  clear hc C1 O2
  go_wp2_with fail
  refine (cat_flush_end C3.out (by simp)).mono ?_
  rintro e w4 ⟨rfl, hc⟩
  have C4 : Hid (CAt w w4 g ⟨[secB f 64], [], true, -1⟩) := hc
  clear hc C3
  go_wp2_with fail
  go_loopw [9] (fun k wr => ∃ i : Nat, i ≤ n ∧ k = .int .i64 i ∧ Hid (CAt w wr g ⟨[secB f 64], lone (ws.take i), true, -1⟩)) (fun k _ => n - (intOf k).toNat)
  case atStart => exact ⟨0, Nat.zero_le _, rfl, C4.out⟩
  case round =>
    obtain ⟨i, hi, rfl, HR⟩ := hrel
    by_cases hlt : i < n
    case pos =>
      have tn : (i : Int) < (n : Int) := by omega
      have i0 : (0 : Int) ≤ (i : Int) := by omega
      obtain ⟨b, o, rfl, hbl, hc⟩ := HA.out.2 (by omega)
      have c0 : wr.cell? ⟨b, o + i, none⟩ = some (.int .u8 ((ws.getD i 0).toNat : Int)) := (HR.out.base.cell (p := ⟨b, o + i, none⟩) hbl).trans (hc i hlt)
      have ea : (⟨b, o, none⟩ : Addr).add i = ⟨b, o + i, none⟩ := add_mk b o i
      obtain ⟨y, hy⟩ : ∃ y, y = ws.getD i 0 := ⟨_, rfl⟩
      rw [← hy] at c0
      have HY : Hid (lone (ws.take i) ++ [(0, secB y 64)] = lone (ws.take (i + 1))) := by
        show _ = _
        have hl : i < ws.length := by have := HA.out.1; omega
        rw [List.take_add_one, List.getElem?_eq_getElem hl, hy, List.getD_eq_getElem?_getD, List.getElem?_eq_getElem hl]
        unfold lone
        rw [List.map_append]
        rfl
      have HL : Hid ((lone (ws.take i)).length ≤ 1000000) := by show _ ≤ _; simp only [lone, List.length_map, List.length_take]; omega
      have HLT := Lib.hid hlt
      clear hc hy hbl
      go_wp2_with fail
      refine (sec64_any y wr).mono ?_
      rintro e w5 ⟨v, rfl, ho, hb⟩
      have O5 := Lib.hid (And.intro ho hb)
      clear ho hb c0 ea
      go_wp2_with fail
      refine (cat_write_end 0 HR.out O5.out.2 O5.out.1 HL.out (by decide) (by simp) (secB_64 y)).mono ?_
      rintro e w6 ⟨rfl, hc⟩
      have C6 : Hid (CAt w w6 g ⟨[secB f 64], lone (ws.take (i + 1)), true, -1⟩) := by show CAt _ _ _ _; rw [← HY.out]; exact hc
      clear hc
      go_wp2_with fail
      go_roundw
      case rel => exact ⟨i + 1, by have := HLT.out; omega, by simp, C6⟩
      case measure => simp [intOf]; have := HLT.out; omega
    obtain rfl : n = i := by omega
    have tn : ¬ (n : Int) < (n : Int) := by omega
    have C7 : Hid (CAt w wr g ⟨[secB f 64], lone ws, true, -1⟩) := by
      show CAt _ _ _ _
      have h := HR.out
      rw [List.take_of_length_le (by have := HA.out.1; omega)] at h
      exact h
    have HL : Hid ((lone ws).length ≤ 1000000) := by show _ ≤ _; simp only [lone, List.length_map]; have := HA.out.1; omega
    clear HR hlt hi
    go_wp2_with fail
    refine (cat_crash C7.out HL.out HK.out.1 HK.out.keep).mono ?_
    rintro e w8 ⟨rfl, hc⟩
    obtain ⟨t, ht, hh⟩ := tornW_one (P := fun a => ∃ x ∈ f :: ws, a = secB x 64) (lone ws) ks (secB f 64) (fun x hx => by
      obtain ⟨y, hy, rfl⟩ := List.mem_map.1 hx
      exact ⟨rfl, ⟨y, List.mem_cons_of_mem _ hy, rfl⟩, secB_64 y⟩) (Halves.of ⟨f, by simp, rfl⟩ (secB_64 f))
    have C8 : Hid (CAt w w8 g ⟨[t], [], false, -1⟩) := by
      show CAt _ _ _ _
      have h := hc
      unfold Cd.crash at h
      rw [ht] at h
      exact h
    have HT := Lib.hid hh
    clear hc ht hh C7 HL
    go_wp2_with fail
    refine (cat_start C8.out).mono ?_
    rintro e w9 ⟨rfl, hc⟩
    have C9 : Hid (CAt w w9 g ⟨[t], [], true, -1⟩) := hc
    clear hc C8
    go_wp2_with fail
    refine (cat_read_end 0 C9.out (by simp) (by simp)).mono ?_
    rintro e w10 ⟨hc, hb, v, l, hl, rfl, ho⟩
    obtain rfl : t = l := by injection hl
    obtain ⟨A1, c1, rfl, hc1, -, hr⟩ := ho.rd
    rw [HT.out.1] at hr hc1 ⊢
    obtain ⟨A2, c2, cut2, -, -, hr2⟩ := cut_h (P := Try.prog) 33 5 Try.underlying33 size_u8 c1 hr 32 32 rfl (by decide) hc1
    obtain ⟨A3, c3, cut3, -, -, hr3⟩ := cut_l (P := Try.prog) 33 5 Try.underlying33 size_u8 c1 hr 32 32 rfl (by decide) hc1
    rw [show 64 - 32 = 32 from rfl] at cut3 hr3
    have C10 := Lib.hid hc
    have HR2 := Lib.hid hr2
    have HR3 := Lib.hid hr3
    have HW : Hid (Rd w10 w10.heap.size A n ws) := (HA.out.below hc.base).more hc.size
    have Q1 : Hid (t.take 32 = half f 0 ∨ ∃ a ∈ ws, t.take 32 = half a 0) := by
      obtain ⟨a, ⟨x, hx, rfl⟩, e⟩ := HT.out.2.1
      rcases List.mem_cons.1 hx with rfl | hx
      · exact .inl (by rw [e]; rfl)
      · exact .inr ⟨x, hx, by rw [e]; rfl⟩
    have hf32 : ∀ x : UInt8, (secB x 64).drop 32 = half x 32 := fun x => by unfold half; rw [List.take_of_length_le (by rw [List.length_drop, secB_64]; decide)]
    have Q2 : Hid (t.drop 32 = half f 32 ∨ ∃ a ∈ ws, t.drop 32 = half a 32) := by
      obtain ⟨a, ⟨x, hx, rfl⟩, e⟩ := HT.out.2.2
      rcases List.mem_cons.1 hx with rfl | hx
      · exact .inl (by rw [e, hf32])
      · exact .inr ⟨x, hx, by rw [e, hf32]⟩
    clear hc hb hl ho hr hc1 hr2 hr3 hf32
    go_wp2_with fail
    refine (some_any 0 f A2 c2 (t.take 32) A n c ws w10 (.inl rfl) HR2.out HW.out HN.out Q1.out).mono ?_
    rintro e w11 ⟨rfl, hb⟩
    have B11 := Lib.hid hb
    clear hb
    go_wp2_with fail
    refine (some_any 32 f A3 c3 (t.drop 32) A n c ws w11 (.inr rfl) ((HR3.out.below B11.out).more B11.out.size) ((HW.out.below B11.out).more B11.out.size) HN.out Q2.out).mono ?_
    rintro e w12 ⟨rfl, hb⟩
    have B12 : Hid (Below w.heap.size w w12) := (C10.out.base.trans (B11.out.mono C10.out.size)).trans (hb.mono (Nat.le_trans C10.out.size B11.out.size))
    clear hb
    go_wp2_with fail
    refine (heads13_any w12).mono ?_
    rintro e w13 ⟨rfl, hb⟩
    have B13 : Hid (Below w.heap.size w w13) := B12.out.trans (hb.mono B12.out.size)
    clear hb
    go_wp2_with fail
    go_ret
    exact ⟨rfl, B13.out⟩
end Go.Proofs.Ytchcimckffonjaa
