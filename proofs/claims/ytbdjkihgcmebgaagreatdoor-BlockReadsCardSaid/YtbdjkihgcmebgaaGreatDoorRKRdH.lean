/- The reader of layer 3: bytes and texts, and heads. The reader of layer 3: heads. -/
import Derived.Test.YtbdjkihgcmebgaaGreatDoorRKRd
namespace Go.Proofs.YtbdjkihgcmebgaaGreatDoor
open Go.RowKit

section
variable {w : World} {g n c i p d : Nat} {A : Option Addr} {bs : List UInt8}

set_option maxRecDepth 100000 in
set_option maxHeartbeats 1000000 in
theorem cbytes_new (A : Option Addr) (n c B : Nat) (l : List UInt8) (w : World) (hB : B ≤ w.heap.size) (h : Rd w B A n l) (hn : n ≤ 140737488355328) :
    Calls Tryz.prog 56 #[.slice A n c] w fun e w' => ∃ v, e = .returned v ∧ RdI (mask (lows w.heap.size) w') w'.heap.size v (.mk 2 0 l []) ∧ Below w.heap.size w w' := by
  have C1 := Lib.hid (bclone_any A n c B l (w.alloc (.cells #[.int .i64 0, .int .u64 0, .slice none 0 0, .slice none 0 0] 42)) (Nat.le_trans hB (le_alloc _ _)) (h.alloc hB _) hn)
  have HLN := Lib.hid h.1
  have HN := Lib.hid hn
  clear h hn hB
  go_enter Tryz.func56, Tryz.ntmps56
  go_wp2_with fail
  refine C1.out.mono ?_
  rintro e w1 ⟨v, rfl, ho, hb⟩
  have hb' := to_box hb
  obtain ⟨⟨z0, z1, z2, z3⟩, f0, f1, f2, f3⟩ := zero_cells hb'
  obtain ⟨A2, c2, rfl, hc2, hm2, hr2⟩ := ho.rdn HLN.out
  have HR2 := Lib.hid ho.news
  have B1 := Lib.hid hb'
  clear ho hb hb' hr2
  go_wp2_with fail
  refine bodyPost_ret (v := .agg #[.int .i64 2, .int .u64 0, .slice A2 n c2, .slice none 0 0]) (by simp [results, Tryz.results56, go_sem, z0, z1, z2, z3]) rfl ⟨_, rfl, ?_, set4_below (((Below.refl _ _).alloc (Nat.le_refl _) _).trans (B1.out.mono (Nat.le_succ _))) (Nat.le_refl _)⟩
  exact (RdI.mk_data (by decide) hc2 HN.out HR2.out).fin (Nat.le_refl _) (by simp) (by simp)

set_option maxRecDepth 100000 in
set_option maxHeartbeats 1000000 in
theorem bytes_short (h : RSt w g A n c bs i p d) (m : Nat) (hm : n - i < m) (_hm2 : m < 18446744073709551616) :
    Calls Tryz.prog 78 #[.pointer (some ⟨g, 0, none⟩), .int .u64 (m : Int)] w fun e w' => e = .returned (.tuple #[noItem, flt 30]) ∧ Only g w w' := by
  have C1 := Lib.hid (take_short (h.alloc (.cells #[.int .i64 0, .int .u64 0, .slice none 0 0, .slice none 0 0] 42)) m hm)
  clear h
  go_enter Tryz.func78, Tryz.ntmps78
  go_wp2_with fail
  refine C1.out.mono ?_
  rintro e w1 ⟨rfl, hb⟩
  have hb' := to_box hb
  obtain ⟨⟨z0, z1, z2, z3⟩, f0, f1, f2, f3⟩ := zero_cells hb'
  have HB := Lib.hid (((Below.refl w.heap.size w).alloc (Nat.le_refl _) _).trans (hb'.mono (Nat.le_succ _)))
  clear hb hb'
  unfold flt
  go_wp2_with fail
  refine bodyPost_ret (v := .tuple #[noItem, flt 30]) (by simp [results, Tryz.results78, go_sem, z0, z1, z2, z3, noItem, flt]) rfl ⟨rfl, set4_only (Only.of_below HB.out) (Nat.le_refl _)⟩

set_option maxRecDepth 100000 in
set_option maxHeartbeats 1000000 in
theorem bytes_ok (h : RSt w g A n c bs i p d) (m : Nat) (hm : m ≤ n - i) :
    Calls Tryz.prog 78 #[.pointer (some ⟨g, 0, none⟩), .int .u64 (m : Int)] w (GivesR g A n c bs d (.ok (.mk 2 0 ((bs.drop i).take m) [], p, (bs.drop i).drop m)) w) := by
  have C1 := Lib.hid (take_ok (h.alloc (.cells #[.int .i64 0, .int .u64 0, .slice none 0 0, .slice none 0 0] 42)) m hm)
  have hn := h.hn
  have HG := Lib.hid h.lt
  clear h
  go_enter Tryz.func78, Tryz.ntmps78
  go_wp2_with fail
  refine C1.out.mono ?_
  rintro e w1 ⟨A', rfl, hr, hs, ho⟩
  have HS := Lib.hid hs
  have C2 := Lib.hid (cbytes_new A' m m g _ w1 (Nat.le_of_lt hs.lt) hr (by omega))
  have HO := Lib.hid ho
  have hz1 : w.heap.size + 1 ≤ w1.heap.size := by have := ho.size; simpa using this
  have HZ1 := Lib.hid hz1
  clear hr hs ho hz1
  go_wp2_with fail
  refine C2.out.mono ?_
  rintro e w2 ⟨v, rfl, hv, hb⟩
  obtain ⟨k1, n1, A1, nd1, cd1, AL1, nl1, cl1, rfl⟩ := hv.form
  have HV := Lib.hid hv
  have HO2 := Lib.hid (HO.out.trans (Only.of_below hb))
  have HS2 := Lib.hid (HS.out.below hb HS.out.lt)
  obtain ⟨⟨z0, z1, z2, z3⟩, f0, f1, f2, f3⟩ := zero_only HO2.out HG.out
  clear hv hb
  go_wp2_with fail
  refine bodyPost_ret (v := .tuple #[.agg #[.int .i64 k1, .int .u64 (n1 : Int), .slice A1 nd1 cd1, .slice AL1 nl1 cl1], .nilIface]) (by simp [results, Tryz.results78, go_sem, z0, z1, z2, z3]) rfl ?_
  exact ⟨_, i + m, rfl, HV.out.fin (Nat.le_refl _) HZ1.out (Nat.le_of_succ_le HZ1.out), HS2.out.set4 HG.out, by rw [List.drop_drop], set4_only (((Only.refl g w).alloc _).trans HO2.out) (Nat.le_refl _)⟩

/-- 'b[:k]', k of the kind uint64. -/
theorem cut_hu {B m k : Nat} {l : List UInt8} (c : Nat) (h : Rd w B A m l) (hk : k ≤ m) (hc : m ≤ c) (hc2 : k ≤ 140737488355328) :
    ∃ A' c', (∀ W : World, (Instr.slice 22 (.slice A m c) none (some (.int .u64 (k : Int))) none).run Tryz.prog W = .ok (.slice A' k c') W) ∧ k ≤ c' ∧ Rd w B A' k (l.take k) := by
  have hz := size_u8
  have ht := Tryz.underlying22
  by_cases hc0 : c = 0
  · have hk0 : k = 0 := by omega
    subst hk0 hc0
    refine ⟨A, 0, fun W => ?_, by omega, h.take hk⟩
    go_simp
  · refine ⟨A, c, fun W => ?_, by omega, h.take hk⟩
    go_simp
    intro h
    omega

/-- What text asks first. -/
structure TextIn (w : World) (g : Nat) (A : Option Addr) (n c : Nat) (bs : List UInt8) (i m K : Nat) (A1 A2 : Option Addr) (c1 c2 : Nat) : Prop where
  r1 : ∀ W : World, (Instr.slice 22 (.slice A n c) (some (.int .i64 (i : Int))) none none).run Tryz.prog W = .ok (.slice A1 (n - i) c1) W
  r2 : ∀ W : World, (Instr.slice 22 (.slice A1 (n - i) c1) none (some (.int .u64 (K : Int))) none).run Tryz.prog W = .ok (.slice A2 K c2) W
  rd : Rd w g A2 K ((bs.drop i).take m)
  mn : min (m : Int) ((n - i : Nat) : Int) = (K : Int)
  hk : K ≤ 140737488355328
theorem TextIn.mk_ (h : RSt w g A n c bs i p d) (m : Nat) : ∃ K A1 A2 c1 c2, TextIn w g A n c bs i m K A1 A2 c1 c2 := by
  have hi := h.hi
  have hn := h.hn
  have hc := h.hc
  obtain ⟨A1, c1, r1, q1, q2, q3⟩ := cut_l (P := Tryz.prog) 22 5 Tryz.underlying22 size_u8 c h.rd (i : Int) i rfl hi hc
  obtain ⟨A2, c2, r2, q4, q5⟩ := cut_hu (k := min m (n - i)) c1 q3 (by omega) q1 (by omega)
  refine ⟨min m (n - i), A1, A2, c1, c2, r1, r2, ?_, by omega, by omega⟩
  have hl := q3.1
  have e : (bs.drop i).take m = (bs.drop i).take (min m (n - i)) := by
    rcases Nat.le_total m (n - i) with h1 | h1
    · rw [Nat.min_eq_left h1]
    · rw [Nat.min_eq_right h1, List.take_of_length_le (by omega), List.take_of_length_le (by omega)]
  rw [e]
  exact q5

set_option maxRecDepth 100000 in
set_option maxHeartbeats 2000000 in
theorem text_bad (h : RSt w g A n c bs i p d) (m : Nat) (hp : plain ((bs.drop i).take m) = false) :
    Calls Tryz.prog 79 #[.pointer (some ⟨g, 0, none⟩), .int .u64 (m : Int)] w fun e w' => e = .returned (.tuple #[noItem, flt 31]) ∧ Only g w w' := by
  obtain ⟨K, A1, A2, c1, c2, ht⟩ := TextIn.mk_ (h.alloc (.cells #[.int .i64 0, .int .u64 0, .slice none 0 0, .slice none 0 0] 42)) m
  have hs := h.alloc (.cells #[.int .i64 0, .int .u64 0, .slice none 0 0, .slice none 0 0] 42)
  have C1 := Lib.hid (left_any hs.drew)
  have HS := Lib.hid hs
  have hr1 := ht.r1
  have hr2 := ht.r2
  have hmn := ht.mn
  have HT := Lib.hid ht
  have g0 := hs.c0
  have g1 := hs.c1
  have hpl := cplain_any A2 K c2 g ((bs.drop i).take m)
  rw [hp] at hpl
  have C2 := Lib.hid (fun W (hb : Below (w.alloc (.cells #[.int .i64 0, .int .u64 0, .slice none 0 0, .slice none 0 0] 42)).heap.size (w.alloc (.cells #[.int .i64 0, .int .u64 0, .slice none 0 0, .slice none 0 0] 42)) W) => hpl W (ht.rd.below (hb.mono (Nat.le_of_lt hs.lt))) ht.hk)
  have HG := Lib.hid h.lt
  clear h ht hs hp hpl
  generalize n - i = m2 at *
  go_enter Tryz.func79, Tryz.ntmps79
  go_wp2_with fail
  go_region_held3 (fun W => W.cell? ⟨g, 0, none⟩ = some (.slice A n c) ∧ W.cell? ⟨g, 1, none⟩ = some (.int .i64 (i : Int)))
    (first | (exact ⟨g0, g1⟩) | (exact ⟨q0, q1⟩) | fail)
    (first
      | (go_at_call 76; refine C1.out.mono ?_; rintro e w1 ⟨rfl, hb1⟩; have HB1 := Lib.hid ((Below.drew_).trans hb1); have q0 := (hb1.cell (p := ⟨g, 0, none⟩) HS.out.lt).trans g0; have q1 := (hb1.cell (p := ⟨g, 1, none⟩) HS.out.lt).trans g1; clear hb1)
      | (go_at_call 88; refine (C2.out _ HB1.out).mono ?_; rintro e w2 ⟨rfl, rfl⟩)
      | fail)
  obtain ⟨⟨z0, z1, z2, z3⟩, f0, f1, f2, f3⟩ := zero_cells (to_box HB1.out)
  have HB := Lib.hid (((Below.refl w.heap.size w).alloc (Nat.le_refl _) _).trans ((to_box HB1.out).mono (Nat.le_succ _)))
  go_wp2_with fail
  refine bodyPost_ret (v := .tuple #[noItem, flt 31]) (by simp [results, Tryz.results79, go_sem, z0, z1, z2, z3, noItem, flt]) rfl ⟨rfl, set4_only (Only.of_below HB.out) (Nat.le_refl _)⟩

set_option maxRecDepth 100000 in
set_option maxHeartbeats 2000000 in
theorem text_short (h : RSt w g A n c bs i p d) (m : Nat) (hp : plain ((bs.drop i).take m) = true) (hm : n - i < m) :
    Calls Tryz.prog 79 #[.pointer (some ⟨g, 0, none⟩), .int .u64 (m : Int)] w fun e w' => e = .returned (.tuple #[noItem, flt 30]) ∧ Only g w w' := by
  obtain ⟨K, A1, A2, c1, c2, ht⟩ := TextIn.mk_ (h.alloc (.cells #[.int .i64 0, .int .u64 0, .slice none 0 0, .slice none 0 0] 42)) m
  have hs := h.alloc (.cells #[.int .i64 0, .int .u64 0, .slice none 0 0, .slice none 0 0] 42)
  have C1 := Lib.hid (left_any hs.drew)
  have HS := Lib.hid hs
  have hr1 := ht.r1
  have hr2 := ht.r2
  have hmn := ht.mn
  have HT := Lib.hid ht
  have g0 := hs.c0
  have g1 := hs.c1
  have hpl := cplain_any A2 K c2 g ((bs.drop i).take m)
  rw [hp] at hpl
  have C2 := Lib.hid (fun W (hb : Below (w.alloc (.cells #[.int .i64 0, .int .u64 0, .slice none 0 0, .slice none 0 0] 42)).heap.size (w.alloc (.cells #[.int .i64 0, .int .u64 0, .slice none 0 0, .slice none 0 0] 42)) W) => hpl W (ht.rd.below (hb.mono (Nat.le_of_lt hs.lt))) ht.hk)
  have HG := Lib.hid h.lt
  clear h ht hs hp hpl
  have C3 := Lib.hid (fun W (hb : Below (w.alloc (.cells #[.int .i64 0, .int .u64 0, .slice none 0 0, .slice none 0 0] 42)).heap.size (w.alloc (.cells #[.int .i64 0, .int .u64 0, .slice none 0 0, .slice none 0 0] 42)) W) => take_short (HS.out.below hb HS.out.lt) m hm)
  generalize n - i = m2 at *
  go_enter Tryz.func79, Tryz.ntmps79
  go_wp2_with fail
  go_region_held3 (fun W => W.cell? ⟨g, 0, none⟩ = some (.slice A n c) ∧ W.cell? ⟨g, 1, none⟩ = some (.int .i64 (i : Int)))
    (first | (exact ⟨g0, g1⟩) | (exact ⟨q0, q1⟩) | fail)
    (first
      | (go_at_call 76; refine C1.out.mono ?_; rintro e w1 ⟨rfl, hb1⟩; have HB1 := Lib.hid ((Below.drew_).trans hb1); have q0 := (hb1.cell (p := ⟨g, 0, none⟩) HS.out.lt).trans g0; have q1 := (hb1.cell (p := ⟨g, 1, none⟩) HS.out.lt).trans g1; clear hb1)
      | (go_at_call 88; refine (C2.out _ HB1.out).mono ?_; rintro e w2 ⟨rfl, rfl⟩)
      | fail)
  clear q0 q1
  go_wp2_with fail
  refine (C3.out _ HB1.out).mono ?_
  rintro e w2 ⟨rfl, hb2⟩
  have HB2 := Lib.hid (HB1.out.trans (hb2.mono HB1.out.size))
  obtain ⟨⟨z0, z1, z2, z3⟩, f0, f1, f2, f3⟩ := zero_cells (to_box HB2.out)
  have HB := Lib.hid (((Below.refl w.heap.size w).alloc (Nat.le_refl _) _).trans ((to_box HB2.out).mono (Nat.le_succ _)))
  clear hb2
  unfold flt
  go_wp2_with fail
  refine bodyPost_ret (v := .tuple #[noItem, flt 30]) (by simp [results, Tryz.results79, go_sem, z0, z1, z2, z3, noItem, flt]) rfl ⟨rfl, set4_only (Only.of_below HB.out) (Nat.le_refl _)⟩

set_option maxRecDepth 100000 in
set_option maxHeartbeats 2000000 in
theorem text_ok (h : RSt w g A n c bs i p d) (m : Nat) (hp : plain ((bs.drop i).take m) = true) (hm : m ≤ n - i) :
    Calls Tryz.prog 79 #[.pointer (some ⟨g, 0, none⟩), .int .u64 (m : Int)] w (GivesR g A n c bs d (.ok (.mk 3 0 ((bs.drop i).take m) [], p, (bs.drop i).drop m)) w) := by
  obtain ⟨K, A1, A2, c1, c2, ht⟩ := TextIn.mk_ (h.alloc (.cells #[.int .i64 0, .int .u64 0, .slice none 0 0, .slice none 0 0] 42)) m
  have hs := h.alloc (.cells #[.int .i64 0, .int .u64 0, .slice none 0 0, .slice none 0 0] 42)
  have C1 := Lib.hid (left_any hs.drew)
  have HS := Lib.hid hs
  have hr1 := ht.r1
  have hr2 := ht.r2
  have hmn := ht.mn
  have HT := Lib.hid ht
  have g0 := hs.c0
  have g1 := hs.c1
  have hpl := cplain_any A2 K c2 g ((bs.drop i).take m)
  rw [hp] at hpl
  have C2 := Lib.hid (fun W (hb : Below (w.alloc (.cells #[.int .i64 0, .int .u64 0, .slice none 0 0, .slice none 0 0] 42)).heap.size (w.alloc (.cells #[.int .i64 0, .int .u64 0, .slice none 0 0, .slice none 0 0] 42)) W) => hpl W (ht.rd.below (hb.mono (Nat.le_of_lt hs.lt))) ht.hk)
  have HG := Lib.hid h.lt
  clear h ht hs hp hpl
  have C3 := Lib.hid (fun W (hb : Below (w.alloc (.cells #[.int .i64 0, .int .u64 0, .slice none 0 0, .slice none 0 0] 42)).heap.size (w.alloc (.cells #[.int .i64 0, .int .u64 0, .slice none 0 0, .slice none 0 0] 42)) W) => take_ok (HS.out.below hb HS.out.lt) m hm)
  have HMB : Hid (m ≤ 140737488355328) := Nat.le_trans hm (Nat.le_trans (Nat.sub_le _ _) HS.out.hn)
  generalize n - i = m2 at *
  go_enter Tryz.func79, Tryz.ntmps79
  go_wp2_with fail
  go_region_held3 (fun W => W.cell? ⟨g, 0, none⟩ = some (.slice A n c) ∧ W.cell? ⟨g, 1, none⟩ = some (.int .i64 (i : Int)))
    (first | (exact ⟨g0, g1⟩) | (exact ⟨q0, q1⟩) | fail)
    (first
      | (go_at_call 76; refine C1.out.mono ?_; rintro e w1 ⟨rfl, hb1⟩; have HB1 := Lib.hid ((Below.drew_).trans hb1); have q0 := (hb1.cell (p := ⟨g, 0, none⟩) HS.out.lt).trans g0; have q1 := (hb1.cell (p := ⟨g, 1, none⟩) HS.out.lt).trans g1; clear hb1)
      | (go_at_call 88; refine (C2.out _ HB1.out).mono ?_; rintro e w2 ⟨rfl, rfl⟩)
      | fail)
  clear q0 q1
  go_wp2_with fail
  refine (C3.out _ HB1.out).mono ?_
  rintro e w2 ⟨A', rfl, hr, hs, ho⟩
  have HS2 := Lib.hid hs
  have HRL := Lib.hid hr.1
  have C4 := Lib.hid (bclone_any A' m m g _ w2 (Nat.le_of_lt hs.lt) hr HMB.out)
  have HO := Lib.hid ((Only.of_below (show Below (w.alloc (.cells #[.int .i64 0, .int .u64 0, .slice none 0 0, .slice none 0 0] 42)).heap.size (w.alloc (.cells #[.int .i64 0, .int .u64 0, .slice none 0 0, .slice none 0 0] 42)) w1 from HB1.out)).trans ho)
  have hz1 : w.heap.size + 1 ≤ w2.heap.size := by have := HO.out.size; simpa using this
  have HZ1 := Lib.hid hz1
  clear hr hs ho hz1
  go_wp2_with fail
  refine C4.out.mono ?_
  rintro e w3 ⟨v, rfl, ho3, hb3⟩
  obtain ⟨A3, c3, rfl, hc3, hm3, -⟩ := ho3.rdn HRL.out
  have HV := Lib.hid (RdI.mk_data (k := 3) (by decide) hc3 HMB.out ho3.news)
  have HO3 := Lib.hid (HO.out.trans (Only.of_below hb3))
  have HS3 := Lib.hid (HS2.out.below hb3 HS2.out.lt)
  obtain ⟨⟨z0, z1, z2, z3⟩, f0, f1, f2, f3⟩ := zero_only HO3.out HG.out
  clear ho3 hb3
  go_wp2_with fail
  refine bodyPost_ret (v := .tuple #[.agg #[.int .i64 3, .int .u64 0, .slice A3 m c3, .slice none 0 0], .nilIface]) (by simp [results, Tryz.results79, go_sem, z0, z1, z2, z3]) rfl ?_
  exact ⟨_, i + m, rfl, HV.out.fin (Nat.le_refl _) HZ1.out (Nat.le_of_succ_le HZ1.out), HS3.out.set4 HG.out, by rw [List.drop_drop], set4_only (((Only.refl g w).alloc _).trans HO3.out) (Nat.le_refl _)⟩
end

/-- What head gives back. -/
def GivesH (g : Nat) (A : Option Addr) (n c : Nat) (bs : List UInt8) (p d : Nat) (r : Except Int (Nat × Nat × List UInt8)) (w : World) (e : Ending) (w' : World) : Prop :=
  match r with
  | .error z => e = .returned (.tuple #[.int .u64 0, flt z]) ∧ Only g w w'
  | .ok (_, m, l') => ∃ i', e = .returned (.tuple #[.int .u64 (m : Int), .nilIface]) ∧ RSt w' g A n c bs i' p d ∧ bs.drop i' = l' ∧ Only g w w'

section
variable {w : World} {g n c i p d : Nat} {A : Option Addr} {bs : List UInt8}
set_option maxRecDepth 100000 in
set_option maxHeartbeats 2000000 in
theorem head_low (h : RSt w g A n c bs i p d) (hl : i < n) (x : UInt8) (hx : bs.drop i = x :: bs.drop (i + 1)) (h24 : x.toNat % 32 < 24) :
    Calls Tryz.prog 54 #[.pointer (some ⟨g, 0, none⟩)] w fun e w' => e = .returned (.tuple #[.int .u64 ((x.toNat % 32 : Nat) : Int), .nilIface]) ∧ RSt w' g A n c bs (i + 1) p d ∧ Only g w w' := by
  obtain ⟨b, o, y, rfl, hc, hy, hb⟩ := h.byte hl
  rw [hx] at hy
  obtain ⟨rfl, -⟩ := List.cons.inj hy
  have hx256 := x.toNat_lt
  have hand := and31 x.toNat hx256
  generalize x.toNat = X at *
  have HR := Lib.hid h
  have hn := h.hn
  have g0 := h.c0
  have g1 := h.c1
  have f1 := h.f1
  have hi0 : (0 : Int) ≤ (i : Int) := by omega
  have hin : (i : Int) < (n : Int) := by omega
  clear h hx hy
  go_enter Tryz.func54, Tryz.ntmps54
  go_wp2_with fail
  go_quiet (fail)
  have g1' : (w.drewN nq).cell? ⟨g, 1, none⟩ = some (.int .i64 (i : Int)) := g1
  have f1' : (w.drewN nq).frozen? ⟨g, 1, none⟩ = false := f1
  go_wp2_with fail
  go_ret2
  have hs : RSt (w.drewN nq) g _ n c bs i p d := HR.out.below (below_drewN _ _ _) HR.out.lt
  exact ⟨rfl, hs.set1 (i + 1) (by omega) (by omega), (Only.of_below (below_drewN _ _ _)).setCell (by rfl) _⟩

theorem wrap_pow (L : Nat) (h24 : 24 ≤ L) (h27 : L ≤ 27) : IntKind.u64.wrap (2 ^ (L - 24)) = ((2 ^ (L - 24) : Nat) : Int) := by
  obtain ⟨q, rfl⟩ : ∃ q, L = 24 + q := ⟨L - 24, by omega⟩
  rw [Nat.add_sub_cancel_left]
  rcases (show q = 0 ∨ q = 1 ∨ q = 2 ∨ q = 3 by omega) with rfl | rfl | rfl | rfl <;> decide
theorem pow_le (L : Nat) (h24 : 24 ≤ L) (h27 : L ≤ 27) : 1 ≤ 2 ^ (L - 24) ∧ 2 ^ (L - 24) ≤ 8 := by
  obtain ⟨q, rfl⟩ : ∃ q, L = 24 + q := ⟨L - 24, by omega⟩
  rw [Nat.add_sub_cancel_left]
  rcases (show q = 0 ∨ q = 1 ∨ q = 2 ∨ q = 3 by omega) with rfl | rfl | rfl | rfl <;> decide

set_option maxRecDepth 100000 in
set_option maxHeartbeats 2000000 in
theorem head_short (h : RSt w g A n c bs i p d) (hl : i < n) (x : UInt8) (hx : bs.drop i = x :: bs.drop (i + 1)) (L : Nat) (hL : x.toNat % 32 = L) (h24 : 24 ≤ L) (h27 : L ≤ 27) (hk : n - (i + 1) < 2 ^ (L - 24)) :
    Calls Tryz.prog 54 #[.pointer (some ⟨g, 0, none⟩)] w fun e w' => e = .returned (.tuple #[.int .u64 0, flt 30]) ∧ Only g w w' := by
  obtain ⟨b, o, y, rfl, hc, hy, hb⟩ := h.byte hl
  rw [hx] at hy
  obtain ⟨rfl, -⟩ := List.cons.inj hy
  have hx256 := x.toNat_lt
  have hand := and31 x.toNat hx256
  rw [hL] at hand
  generalize x.toNat = X at *
  have HR := Lib.hid h
  have hn := h.hn
  have g0 := h.c0
  have g1 := h.c1
  have f1 := h.f1
  have hi0 : (0 : Int) ≤ (i : Int) := by omega
  have hin : (i : Int) < (n : Int) := by omega
  clear h hx hy
  go_enter Tryz.func54, Tryz.ntmps54
  go_wp2_with fail
  go_quiet (fail)
  have g1' : (w.drewN nq).cell? ⟨g, 1, none⟩ = some (.int .i64 (i : Int)) := g1
  have f1' : (w.drewN nq).frozen? ⟨g, 1, none⟩ = false := f1
  have hs : RSt (w.drewN nq) g _ n c bs i p d := HR.out.below (below_drewN _ _ _) HR.out.lt
  have hs1 := hs.set1 (z := (i : Int) + 1) (i + 1) (by omega) (by omega)
  have HO1 := Lib.hid ((Only.of_below (g := g) (below_drewN w.heap.size w nq)).setCell (p := ⟨g, 1, none⟩) rfl (.int .i64 ((i : Int) + 1)))
  have c1 := take_short hs1 (2 ^ (L - 24)) hk
  rw [← wrap_pow L h24 h27] at c1
  have C1 := Lib.hid c1
  clear hs hs1 c1
  go_wp2_with fail
  refine C1.out.mono ?_
  rintro e w1 ⟨rfl, hb1⟩
  have HB := Lib.hid (HO1.out.trans (Only.of_below hb1))
  clear hb1
  unfold flt
  go_wp2_with fail
  go_ret2
  exact ⟨rfl, HB.out⟩

set_option maxRecDepth 100000 in
set_option maxHeartbeats 2000000 in
theorem head_long (h : RSt w g A n c bs i p d) (hl : i < n) (x : UInt8) (hx : bs.drop i = x :: bs.drop (i + 1)) (L : Nat) (hL : x.toNat % 32 = L) (h24 : 24 ≤ L) (h27 : L ≤ 27) (hk : 2 ^ (L - 24) ≤ n - (i + 1)) (N : Nat) (hN : N = beNat ((bs.drop (i + 1)).take (2 ^ (L - 24)))) :
    Calls Tryz.prog 54 #[.pointer (some ⟨g, 0, none⟩)] w fun e w' => (hsz N = 2 ^ (L - 24) → e = .returned (.tuple #[.int .u64 (N : Int), .nilIface]) ∧ RSt w' g A n c bs (i + 1 + 2 ^ (L - 24)) p d ∧ Only g w w') ∧ (¬ hsz N = 2 ^ (L - 24) → e = .returned (.tuple #[.int .u64 0, flt 31]) ∧ Only g w w') := by
  obtain ⟨b, o, y, rfl, hc, hy, hb⟩ := h.byte hl
  rw [hx] at hy
  obtain ⟨rfl, -⟩ := List.cons.inj hy
  have hx256 := x.toNat_lt
  have hand := and31 x.toNat hx256
  rw [hL] at hand
  generalize x.toNat = X at *
  have HR := Lib.hid h
  have hn := h.hn
  have g0 := h.c0
  have g1 := h.c1
  have f1 := h.f1
  have hi0 : (0 : Int) ≤ (i : Int) := by omega
  have hin : (i : Int) < (n : Int) := by omega
  clear h hx hy
  go_enter Tryz.func54, Tryz.ntmps54
  go_wp2_with fail
  go_quiet (fail)
  have g1' : (w.drewN nq).cell? ⟨g, 1, none⟩ = some (.int .i64 (i : Int)) := g1
  have f1' : (w.drewN nq).frozen? ⟨g, 1, none⟩ = false := f1
  have hs : RSt (w.drewN nq) g _ n c bs i p d := HR.out.below (below_drewN _ _ _) HR.out.lt
  have hs1 := hs.set1 (z := (i : Int) + 1) (i + 1) (by omega) (by omega)
  have HO1 := Lib.hid ((Only.of_below (g := g) (below_drewN w.heap.size w nq)).setCell (p := ⟨g, 1, none⟩) rfl (.int .i64 ((i : Int) + 1)))
  have c1 := take_ok hs1 (2 ^ (L - 24)) hk
  rw [← wrap_pow L h24 h27] at c1
  have C1 := Lib.hid c1
  obtain ⟨k1, k8⟩ := pow_le L h24 h27
  have hNb : N < 18446744073709551616 := by rw [hN]; exact beNat_lt _
  have hs32 : (X : Int) / 2 ^ 5 = ((X / 32 : Nat) : Int) := by omega
  have C3 := Lib.hid (fun W => khead_any ((X : Int) / 32) N W (by simp [Lit.wf, IntKind.min, IntKind.max, IntKind.signed, IntKind.bits]; omega) hNb)
  obtain ⟨M, hM⟩ : ∃ M, M = hsz N + 1 := ⟨_, rfl⟩
  have HH : Hid ((headB ((X : Int) / 32) N).length = M) := by
    show _ = _
    rw [headB, if_neg (by omega), hd_len, hM]
  have HM := Lib.hid hM
  clear hM
  have HZ := Lib.hid (hsz_le N)
  clear hs hs1 c1
  generalize hSZ : hsz N = Z at *
  generalize headB ((X : Int) / 32) N = HB1 at *
  generalize hKK : 2 ^ (L - 24) = K at *
  have HKK := Lib.hid hKK
  have HSZ := Lib.hid hSZ
  clear hSZ hKK
  go_wp2_with fail
  refine C1.out.mono ?_
  rintro e w1 ⟨A', rfl, hr, hs, ho⟩
  have HS := Lib.hid hs
  have c2 := get_any A' K K _ w1 g hr (by omega) (Nat.le_refl _) (by omega)
  rw [show K - 8 = 0 by omega, List.drop_zero, ← hN] at c2
  have C2 := Lib.hid c2
  have HO2 := Lib.hid (HO1.out.trans ho)
  clear hr hs ho c2 hN
  go_wp2_with fail
  refine C2.out.mono ?_
  rintro e w2 ⟨rfl, rfl⟩
  go_wp2_with fail
  refine (C3.out _).mono ?_
  rintro e w3 ⟨v, rfl, ho3, hb3⟩
  obtain ⟨A3, c3, rfl, hc3, hm3, -⟩ := ho3.rdn HH.out
  have HO3 := Lib.hid (HO2.out.trans (Only.of_below hb3))
  have HS3 := Lib.hid (HS.out.below hb3 HS.out.lt)
  clear ho3 hb3
  by_cases hz : Z = K
  · have hd : ((M : Int) != 1 + (K : Int)) = false := by have := HM.out; simp; omega
    have HZE := Lib.hid hz
    clear hz
    go_wp2_with fail
    go_ret2
    exact ⟨fun _ => ⟨rfl, by have := HS3.out; rwa [← HKK.out] at this, HO3.out⟩, fun hq => absurd (by rw [HSZ.out, HKK.out]; exact HZE.out) hq⟩
  · have HZE := Lib.hid hz
    have hd : ((M : Int) != 1 + (K : Int)) = true := by have := HM.out; simp; omega
    clear hz
    go_wp2_with fail
    go_ret2
    exact ⟨fun hq => absurd (by rw [HSZ.out, HKK.out] at hq; exact hq) HZE.out, fun _ => ⟨rfl, HO3.out⟩⟩

/-- head, where the first byte may begin an item. -/
theorem head_any (h : RSt w g A n c bs i p d) (hl : i < n) (x : UInt8) (hx : bs.drop i = x :: bs.drop (i + 1)) (h27 : x.toNat % 32 ≤ 27) (hm : x.toNat / 32 = 0 ∨ x.toNat / 32 = 2 ∨ x.toNat / 32 = 3 ∨ x.toNat / 32 = 4) :
    Calls Tryz.prog 54 #[.pointer (some ⟨g, 0, none⟩)] w (GivesH g A n c bs p d (headD (bs.drop i)) w) := by
  have hlen : (bs.drop (i + 1)).length = n - (i + 1) := by rw [List.length_drop, h.rd.1]
  rw [hx, headD, if_neg (by omega)]
  by_cases h24 : x.toNat % 32 < 24
  · rw [if_pos h24]
    exact (head_low h hl x hx h24).mono fun e w' ⟨h1, h2, h3⟩ => ⟨i + 1, h1, h2, rfl, h3⟩
  · rw [if_neg h24]
    by_cases hk : n - (i + 1) < 2 ^ (x.toNat % 32 - 24)
    · rw [if_pos (by rw [hlen]; exact hk)]
      exact (head_short h hl x hx _ rfl (by omega) h27 hk).mono fun e w' h => h
    · rw [if_neg (by rw [hlen]; exact hk)]
      have hL := head_long h hl x hx _ rfl (by omega) h27 (by omega) _ rfl
      by_cases hz : hsz (beNat ((bs.drop (i + 1)).take (2 ^ (x.toNat % 32 - 24)))) = 2 ^ (x.toNat % 32 - 24)
      · rw [if_neg (by simpa using hz)]
        exact hL.mono fun e w' ⟨h1, _⟩ => ⟨_, (h1 hz).1, (h1 hz).2.1, by rw [← List.drop_drop], (h1 hz).2.2⟩
      · rw [if_pos hz]
        exact hL.mono fun e w' ⟨_, h2⟩ => h2 hz
end
end Go.Proofs.YtbdjkihgcmebgaaGreatDoor
