/- The reference's reader of layer 3: its state, its fault, and heads. The state is that of the code's reader (KRd's RSt), with the fault's number where the code keeps the levels. -/
import Derived.Test.YtbdjkihgcmebgaaGreatDoorRCborD
import Derived.Test.YtbdjkihgcmebgaaGreatDoorRCborR
import Derived.Test.YtbdjkihgcmebgaaGreatDoorRKDec
import Derived.Test.YtbdjkihgcmebgaaGreatDoorRKDec2
import Derived.Test.YtbdjkihgcmebgaaGreatDoorRKRdE
import Derived.Test.YtbdjkihgcmebgaaGreatDoorRShaE
import Derived.BigQuiet
namespace Go.Proofs.YtbdjkihgcmebgaaGreatDoor
open Go.RowKit

/-- What is read where the call began. -/
def MeanG (bs : List UInt8) (r : Except Int (Itm × Nat × List UInt8)) (y : Itm) (i p e : Nat) : Prop :=
  match r with
  | .error z => z = (e : Int) ∧ 0 < e
  | .ok (x, p', l') => e = 0 ∧ y = x ∧ p = p' ∧ bs.drop i = l'
/-- A call of the reader gives back an item in new memory and has read on; or the fault is set, and the item says nothing. -/
def GivesG (g : Nat) (A : Option Addr) (n c : Nat) (bs : List UInt8) (r : Except Int (Itm × Nat × List UInt8)) (w : World) (e : Ending) (w' : World) : Prop :=
  ∃ v y i' p' e', e = .returned v ∧ RdI (mask (lows w.heap.size) w') w'.heap.size v y ∧ RSt w' g A n c bs i' p' e' ∧ Only g w w' ∧ MeanG bs r y i' p' e'
/-- What head gives. -/
def GivesHd (g : Nat) (A : Option Addr) (n c : Nat) (bs : List UInt8) (p : Nat) (r : Except Int (Nat × Nat × List UInt8)) (w : World) (e : Ending) (w' : World) : Prop :=
  match r with
  | .error z => ∃ i' zn, e = .returned (.tuple #[.int .i64 0, .int .u64 0, .bool false]) ∧ z = ((zn : Nat) : Int) ∧ 0 < zn ∧ RSt w' g A n c bs i' p zn ∧ Only g w w'
  | .ok (m, k, l') => ∃ i', e = .returned (.tuple #[.int .i64 (m : Int), .int .u64 (k : Int), .bool true]) ∧ k < 18446744073709551616 ∧ RSt w' g A n c bs i' p 0 ∧ bs.drop i' = l' ∧ Only g w w' ∧ w'.heap.size = w.heap.size

section
variable {w : World} {g n c i p : Nat} {A : Option Addr} {bs : List UInt8}

set_option maxRecDepth 100000 in
set_option maxHeartbeats 1000000 in
theorem rfail_any (h : RSt w g A n c bs i p 0) (z : Nat) :
    Calls Tryz.prog 43 #[.pointer (some ⟨g, 0, none⟩), .int .i64 (z : Int)] w fun e w' => e = .returned noItem ∧ RSt w' g A n c bs i p z ∧ Only g w w' := by
  have hs := h.alloc (.cells #[.int .i64 0, .int .u64 0, .slice none 0 0, .slice none 0 0] 42)
  have q3 : (w.alloc (.cells #[.int .i64 0, .int .u64 0, .slice none 0 0, .slice none 0 0] 42)).cell? ⟨g, 3, none⟩ = some (.int .i64 0) := hs.c3
  have qf := hs.f3
  have HS := Lib.hid (hs.set3 (z := (z : Int)) z rfl)
  have HG := Lib.hid h.lt
  have ho := (Only.refl g (w.alloc (.cells #[.int .i64 0, .int .u64 0, .slice none 0 0, .slice none 0 0] 42))).setCell (p := ⟨g, 3, none⟩) rfl (.int .i64 (z : Int))
  obtain ⟨⟨z0, z1, z2, z3⟩, f0, f1, f2, f3⟩ := zero_only ho h.lt
  have HO := Lib.hid (((Only.refl g w).alloc _).trans ho)
  clear h hs ho
  go_enter Tryz.func43, Tryz.ntmps43
  go_wp2_with fail
  refine bodyPost_ret (v := noItem) (by simp [results, Tryz.results43, go_sem, z0, z1, z2, z3, noItem]) rfl ?_
  exact ⟨rfl, HS.out.set4 HG.out, set4_only HO.out (Nat.le_refl _)⟩

theorem pow_bd {L : Nat} (h1 : 24 ≤ L) (h2 : L ≤ 27) : 1 ≤ 2 ^ (L - 24) ∧ 2 ^ (L - 24) ≤ 8 := by
  have : L = 24 ∨ L = 25 ∨ L = 26 ∨ L = 27 := by omega
  rcases this with rfl | rfl | rfl | rfl <;> decide
theorem maj_facts (X : Nat) : (X / 32 = 0 ∧ ((X : Int) / 32 != 0) = false) ∨ (X / 32 = 2 ∧ ((X : Int) / 32 != 0) = true ∧ ((X : Int) / 32 != 2) = false) ∨
    (X / 32 = 3 ∧ ((X : Int) / 32 != 0) = true ∧ ((X : Int) / 32 != 2) = true ∧ ((X : Int) / 32 != 3) = false) ∨ (X / 32 = 4 ∧ ((X : Int) / 32 != 0) = true ∧ ((X : Int) / 32 != 2) = true ∧ ((X : Int) / 32 != 3) = true ∧ ((X : Int) / 32 != 4) = false) ∨
    ((X / 32 ≠ 0 ∧ X / 32 ≠ 2 ∧ X / 32 ≠ 3 ∧ X / 32 ≠ 4) ∧ ((X : Int) / 32 != 0) = true ∧ ((X : Int) / 32 != 2) = true ∧ ((X : Int) / 32 != 3) = true ∧ ((X : Int) / 32 != 4) = true) := by
  have e : (X : Int) / 32 = ((X / 32 : Nat) : Int) := by omega
  rw [e]
  generalize X / 32 = M
  simp only [bne_iff_ne, ne_eq, bne_eq_false_iff_eq]
  omega

set_option maxRecDepth 100000 in
set_option maxHeartbeats 4000000 in
theorem rhead3_any (h : RSt w g A n c bs i p 0) (hl : i < n) :
    Calls Tryz.prog 45 #[.pointer (some ⟨g, 0, none⟩)] w (GivesHd g A n c bs p (headD (bs.drop i)) w) := by
  obtain ⟨b, o, x, rfl, hcx, hy, hb⟩ := h.byte hl
  obtain ⟨R, hR⟩ : ∃ R, R = headD (bs.drop i) := ⟨_, rfl⟩
  rw [← hR]
  rw [hy] at hR
  rw [headD] at hR
  have HS := Lib.hid h
  have g0 := h.c0
  have g1 := h.c1
  have hx := x.toNat_lt
  have hn := h.hn
  generalize x.toNat = X at *
  have HR := Lib.hid hR
  have i0 : (0 : Int) ≤ (i : Int) := by omega
  have i1 : (i : Int) < (n : Int) := by omega
  clear h hR hy
  have C0 := Lib.hid (fun W (hb : Below w.heap.size w W) (z : Nat) => rfail_any (HS.out.below hb HS.out.lt) z)
  have HB0 := Lib.hid (below_drewN w.heap.size w)
  have HR2 := HR.out
  clear HR
  by_cases h27 : 27 < X % 32
  · have t27 : 27 < (X : Int) % 32 := by omega
    rw [if_pos (.inr h27)] at HR2
    subst HR2
    rcases maj_facts X with ⟨hm, k0⟩ | ⟨hm, k0, k2⟩ | ⟨hm, k0, k2, k3⟩ | ⟨hm, k0, k2, k3, k4⟩ | ⟨hm, k0, k2, k3, k4⟩
    all_goals
      go_enter Tryz.func45, Tryz.ntmps45
      go_wp2_with fail
      go_quiet (fail)
      go_wp2_with fail
      refine (C0.out _ (HB0.out _) 31).mono ?_
      rintro e w1 ⟨rfl, hs1, ho1⟩
      go_wp2_with fail
      refine bodyPost_ret (v := .tuple #[.int .i64 0, .int .u64 0, .bool false]) (by simp [results, Tryz.results45, go_sem]) rfl ?_
      exact ⟨i, 31, rfl, rfl, by decide, hs1, (Only.of_below (HB0.out _)).trans ho1⟩
  have t27 : (X : Int) % 32 ≤ 27 := by omega
  rcases maj_facts X with ⟨hm, k0⟩ | ⟨hm, k0, k2⟩ | ⟨hm, k0, k2, k3⟩ | ⟨hm, k0, k2, k3, k4⟩ | ⟨hm, k0, k2, k3, k4⟩
  case inr.inr.inr.inr =>
    rw [if_pos (.inl hm)] at HR2
    subst HR2
    go_enter Tryz.func45, Tryz.ntmps45
    go_wp2_with fail
    go_quiet (fail)
    go_wp2_with fail
    refine (C0.out _ (HB0.out _) 31).mono ?_
    rintro e w1 ⟨rfl, hs1, ho1⟩
    go_wp2_with fail
    refine bodyPost_ret (v := .tuple #[.int .i64 0, .int .u64 0, .bool false]) (by simp [results, Tryz.results45, go_sem]) rfl ?_
    exact ⟨i, 31, rfl, rfl, by decide, hs1, (Only.of_below (HB0.out _)).trans ho1⟩
  all_goals
    rw [if_neg (by omega)] at HR2
    go_enter Tryz.func45, Tryz.ntmps45
    go_wp2_with fail
    go_quiet (fail)
    have hs1 := HS.out.below (HB0.out nq) HS.out.lt
    have q1 := hs1.c1
    have qf := hs1.f1
    have hs2 := hs1.set1 (z := (i : Int) + 1) (i + 1) (by omega) (by omega)
    have HS2 := Lib.hid hs2
    clear hs1 hs2
    by_cases h24 : X % 32 < 24
    · have t24 : (X : Int) % 32 < 24 := by omega
      rw [if_pos h24] at HR2
      subst HR2
      go_wp2_with fail
      refine bodyPost_ret (v := .tuple #[.int .i64 ((X : Int) / 32), .int .u64 ((X : Int) % 32), .bool true]) (by simp [results, Tryz.results45, go_sem]) rfl ?_
      exact ⟨i + 1, by rw [show ((X / 32 : Nat) : Int) = (X : Int) / 32 by omega, show ((X % 32 : Nat) : Int) = (X : Int) % 32 by omega], by omega, HS2.out, rfl, (Only.of_below (HB0.out _)).setCell (p := ⟨g, 1, none⟩) rfl _, by simp [World.setCell, World.drewN]⟩
    · rw [if_neg h24] at HR2
      have t24 : 24 ≤ (X : Int) % 32 := by omega
      obtain ⟨K, hK⟩ : ∃ K, K = 2 ^ (X % 32 - 24) := ⟨_, rfl⟩
      have hK8 : 1 ≤ K ∧ K ≤ 8 := by rw [hK]; exact pow_bd (by omega) (by omega)
      have hKw : wrap64 (2 ^ (X % 32 - 24)) = (K : Int) := by
        have e : (2 : Int) ^ (X % 32 - 24) = (K : Int) := by rw [hK]; simp
        rw [e]; unfold wrap64; omega
      rw [← hK] at HR2
      have HRR := Lib.hid HR2
      have HRD := HS2.out.rd.1
      clear HR2
      go_wp2_with fail
      rw [hKw]
      clear hKw hK
      have ho2 := (Only.of_below (HB0.out nq)).setCell (p := ⟨g, 1, none⟩) rfl (.int .i64 ((i : Int) + 1))
      have HO2 := Lib.hid ho2
      have HZ2 : Hid (((w.drewN nq).setCell ⟨g, 1, none⟩ (.int .i64 ((i : Int) + 1))).heap.size = w.heap.size) := by show _ = _; simp [World.setCell, World.drewN]
      clear ho2 q1 qf
      generalize (w.drewN nq).setCell ⟨g, 1, none⟩ (.int .i64 ((i : Int) + 1)) = w2 at *
      obtain ⟨I, hI⟩ : ∃ I, I = i + 1 := ⟨_, rfl⟩
      rw [← hI] at HS2 HRR
      have hIn : I ≤ n := by omega
      clear hI
      have c0 := HS2.out.c0
      have c1 := HS2.out.c1
      have e2 : (n : Int) - (I : Int) = ((n - I : Nat) : Int) := by omega
      have HLN : Hid ((bs.drop I).length = n - I) := by show _ = _; rw [List.length_drop, HRD]
      by_cases hsh : n - I < K
      · have tk : ((n - I : Nat) : Int) < (K : Int) := by omega
        have h30 := HRR.out
        rw [if_pos (by rw [HLN.out]; exact hsh)] at h30
        subst h30
        go_quiet (fail)
        have HS3 := Lib.hid (HS2.out.drewN nq)
        have HO3 := Lib.hid (HO2.out.trans (Only.of_below (below_drewN w2.heap.size w2 nq)))
        have C3 := Lib.hid (rfail_any HS3.out 30)
        clear c0 c1 e2 tk HS2 HO2
        go_wp2_with fail
        refine C3.out.mono ?_
        rintro e w1 ⟨rfl, hs1, ho1⟩
        go_wp2_with fail
        refine bodyPost_ret (v := .tuple #[.int .i64 0, .int .u64 0, .bool false]) (by simp [results, Tryz.results45, go_sem]) rfl ?_
        exact ⟨I, 30, rfl, rfl, by decide, hs1, HO3.out.trans ho1⟩
      · have tk : (K : Int) ≤ ((n - I : Nat) : Int) := by omega
        have hc := HS2.out.hc
        obtain ⟨A9, c9, hrun, h91, h92, hrd9⟩ := cut_lh (P := Tryz.prog) 22 5 Tryz.underlying22 size_u8 c HS2.out.rd (I : Int) ((I : Int) + (K : Int)) I (I + K) rfl (by omega) (by omega) (by omega) hc
        rw [Nat.add_sub_cancel_left] at hrun hrd9
        obtain ⟨N, hN⟩ : ∃ N, N = beNat ((bs.drop I).take K) := ⟨_, rfl⟩
        have hNb : N < 18446744073709551616 := by rw [hN]; exact beNat_lt _
        have hRR := HRR.out
        rw [if_neg (by rw [HLN.out]; exact hsh), ← hN] at hRR
        have HRZ := Lib.hid hRR
        clear hRR
        go_quiet (fail)
        have HS3 := Lib.hid (HS2.out.drewN nq)
        have HO3 := Lib.hid (HO2.out.trans (Only.of_below (below_drewN w2.heap.size w2 nq)))
        have RD9 := Lib.hid (hrd9.below (below_drewN g w2 nq))
        have HZ3 : Hid ((w2.drewN nq).heap.size = w.heap.size) := HZ2.out
        clear c0 c1 HS2 HO2 hrd9 HRR HZ2
        generalize w2.drewN nq = w3 at *
        have c0 := HS3.out.c0
        have c1 := HS3.out.c1
        have CG := Lib.hid (fun k => Calls.quiet_of_same ((rget_any A9 K c9 ((bs.drop I).take K) (w3.drewN k) g (RD9.out.below (below_drewN g w3 k)) (by omega)).mono fun _ _ h => ⟨h.1, h.2.symm⟩))
        rw [← hN] at CG
        clear hN
        go_wp2_with fail
        go_quiet (first | (go_at_call 63; exact CG.out _) | fail)
        have HS4 := Lib.hid (HS3.out.drewN nq)
        have HO4 := Lib.hid (HO3.out.trans (Only.of_below (below_drewN w3.heap.size w3 nq)))
        have HZ4 : Hid ((w3.drewN nq).heap.size = w.heap.size) := HZ3.out
        clear c0 c1 HS3 HO3 RD9 CG HZ3
        generalize w3.drewN nq = w4 at *
        have c1 := HS4.out.c1
        have f1 := HS4.out.f1
        have HS5 := Lib.hid (HS4.out.set1 (z := (I : Int) + (K : Int)) (I + K) (by omega) (by omega))
        have HO5 := Lib.hid (HO4.out.setCell (p := ⟨g, 1, none⟩) rfl (.int .i64 ((I : Int) + (K : Int))))
        have CZ := Lib.hid (fun W => rsize_any N W hNb)
        go_wp2_with fail
        refine (CZ.out _).mono ?_
        rintro e w5 ⟨rfl, rfl⟩
        have h8 := hsz_le N
        by_cases hz : hsz N = K
        · have tz : (((hsz N : Nat) : Int) != (K : Int)) = false := by rw [hz]; simp
          have hRR := HRZ.out
          rw [if_neg (by simpa using hz)] at hRR
          subst hRR
          generalize hsz N = Z at *
          go_wp2_with fail
          refine bodyPost_ret (v := .tuple #[.int .i64 ((X : Int) / 32), .int .u64 (N : Int), .bool true]) (by simp [results, Tryz.results45, go_sem]) rfl ?_
          exact ⟨I + K, by rw [show ((X / 32 : Nat) : Int) = (X : Int) / 32 by omega], hNb, HS5.out, by rw [List.drop_drop], HO5.out, by simp [World.setCell]; exact HZ4.out⟩
        · have tz : (((hsz N : Nat) : Int) != (K : Int)) = true := by rw [bne_iff_ne]; omega
          have hRR := HRZ.out
          rw [if_pos hz] at hRR
          subst hRR
          have C3 := Lib.hid (rfail_any HS5.out 31)
          clear hz h8
          generalize ((hsz N : Nat) : Int) = Z at *
          go_wp2_with fail
          refine C3.out.mono ?_
          rintro e w1 ⟨rfl, hs1, ho1⟩
          go_wp2_with fail
          refine bodyPost_ret (v := .tuple #[.int .i64 0, .int .u64 0, .bool false]) (by simp [results, Tryz.results45, go_sem]) rfl ?_
          exact ⟨I + K, 31, rfl, rfl, by decide, hs1, HO5.out.trans ho1⟩
end
end Go.Proofs.YtbdjkihgcmebgaaGreatDoor
/- The reference's reader of layer 3: bytes and texts. -/
namespace Go.Proofs.YtbdjkihgcmebgaaGreatDoor
open Go.RowKit

/-- 'b[i:j]', perhaps empty. -/
theorem cut_lhz {P : Program} {w : World} {B n : Nat} {A : Option Addr} {l : List UInt8} (t e : TypeId) (ht : P.underlying t = some (.slice e)) (hz : ∀ W : World, (sizeOf e).run P W = .ok 1 W) (c : Nat) (h : Rd w B A n l) (x y : Int) (i k : Nat) (hx : x = (i : Int)) (hy : y = ((i + k : Nat) : Int)) (hj : i + k ≤ n) (hc : n ≤ c) :
    ∃ A' c', (∀ W : World, (Instr.slice t (.slice A n c) (some (.int .i64 x)) (some (.int .i64 y)) none).run P W = .ok (.slice A' k c') W) ∧ k ≤ c' ∧ Rd w B A' k ((l.drop i).take k) := by
  by_cases h0 : k = 0
  · subst h0 hx hy
    by_cases hck : c = i
    · refine ⟨A, c - i, fun W => ?_, Nat.zero_le _, by rw [List.take_zero]; exact Rd.nil_⟩
      subst hck
      go_simp
    · refine ⟨A.map (·.add i), c - i, fun W => ?_, Nat.zero_le _, by rw [List.take_zero]; exact Rd.nil_⟩
      have h2 : i ≤ c := by omega
      go_simp
  · obtain ⟨A', c', h1, h2, -, h3⟩ := cut_lh t e ht hz c h x y i (i + k) hx hy (by omega) hj hc
    rw [Nat.add_sub_cancel_left] at h1 h2 h3
    exact ⟨A', c', h1, h2, h3⟩

section
variable {w : World} {g n c i p : Nat} {A : Option Addr} {bs : List UInt8}

set_option maxRecDepth 100000 in
set_option maxHeartbeats 4000000 in
theorem rtext3_any (h : RSt w g A n c bs i p 0) (m : Nat) (hm : m < 18446744073709551616) (k : Nat) (hk : k = 2 ∨ k = 3) :
    Calls Tryz.prog 46 #[.pointer (some ⟨g, 0, none⟩), .int .i64 (k : Int), .int .u64 (m : Int)] w (GivesG g A n c bs (textD k m p (bs.drop i)) w) := by
  obtain ⟨R, hR⟩ : ∃ R, R = textD k m p (bs.drop i) := ⟨_, rfl⟩
  rw [← hR]
  rw [textD] at hR
  have HR := Lib.hid hR
  clear hR
  have hi := h.hi
  have hn := h.hn
  have hc := h.hc
  have HLN : Hid ((bs.drop i).length = n - i) := by show _ = _; rw [List.length_drop, h.rd.1]
  have HS := Lib.hid (h.alloc (.cells #[.int .i64 0, .int .u64 0, .slice none 0 0, .slice none 0 0] 42))
  have HO : Hid (Only g (w.alloc (.cells #[.int .i64 0, .int .u64 0, .slice none 0 0, .slice none 0 0] 42)) (w.alloc (.cells #[.int .i64 0, .int .u64 0, .slice none 0 0, .slice none 0 0] 42))) := Only.refl _ _
  have HG := Lib.hid h.lt
  have HZ := Lib.hid (fun (W : World) (ho : Only g (w.alloc (.cells #[.int .i64 0, .int .u64 0, .slice none 0 0, .slice none 0 0] 42)) W) => zero_only ho HG.out)
  have HB := Lib.hid (fun (W : World) (ho : Only g (w.alloc (.cells #[.int .i64 0, .int .u64 0, .slice none 0 0, .slice none 0 0] 42)) W) => ((Only.refl g w).alloc (.cells #[.int .i64 0, .int .u64 0, .slice none 0 0, .slice none 0 0] 42)).trans ho)
  have HSZ := Lib.hid (fun (W : World) (ho : Only g (w.alloc (.cells #[.int .i64 0, .int .u64 0, .slice none 0 0, .slice none 0 0] 42)) W) => (show w.heap.size + 1 ≤ W.heap.size by have := ho.size; simpa using this))
  clear h
  have c0 := HS.out.c0
  have c1 := HS.out.c1
  have e0 : (n : Int) - (i : Int) = ((n - i : Nat) : Int) := by omega
  obtain ⟨M, hM⟩ : ∃ M, M = n - i := ⟨_, rfl⟩
  rw [← hM] at e0 HLN
  have hM2 : i + M ≤ n := by omega
  have hM3 : M ≤ 140737488355328 := by omega
  clear hM
  obtain ⟨K, hK⟩ : ∃ K, K = min m M := ⟨_, rfl⟩
  have hKM : K ≤ M := by omega
  have hKm : K ≤ m := by omega
  obtain ⟨A9, c9, hrun, h9, hrd9⟩ := cut_lhz (P := Tryz.prog) 22 5 Tryz.underlying22 size_u8 c HS.out.rd (i : Int) ((i : Int) + (K : Int)) i K rfl (by omega) (by omega) hc
  have hTK : (bs.drop i).take K = (bs.drop i).take m := by
    rcases Nat.le_total m M with h1 | h1
    · rw [hK, Nat.min_eq_left h1]
    · rw [hK, Nat.min_eq_right h1, List.take_of_length_le (by rw [HLN.out]; omega), List.take_of_length_le (by rw [HLN.out]; omega)]
  rw [hTK] at hrd9
  have RD9 := Lib.hid hrd9
  have HKK := Lib.hid hK
  clear hrd9 hTK hK
  go_enter Tryz.func46, Tryz.ntmps46
  go_wp2_with fail
  go_quiet (fail)
  have HS2 := Lib.hid (HS.out.drewN nq)
  have HO2 := Lib.hid (HO.out.trans (Only.of_below (below_drewN _ _ nq)))
  have RD2 := Lib.hid (RD9.out.below (below_drewN g _ nq))
  clear c0 c1 HS HO RD9
  generalize (w.alloc (.cells #[.int .i64 0, .int .u64 0, .slice none 0 0, .slice none 0 0] 42)).drewN nq = w2 at *
  have c0 := HS2.out.c0
  have c1 := HS2.out.c1
  by_cases hlt : m < M
  · have hw : wrap64 (m : Int) = (m : Int) := by unfold wrap64; omega
    have tl : decide ((m : Int) < (M : Int)) = true := decide_eq_true (by omega)
    obtain rfl : K = m := by have := HKK.out; omega
    clear HKK
    have hKKm : K ≤ M := by omega
    go_wp2_with fail
    go_quiet (fail)
    have HS3 := Lib.hid (HS2.out.drewN nq)
    have HO3 := Lib.hid (HO2.out.trans (Only.of_below (below_drewN _ _ nq)))
    have RD9 := Lib.hid (RD2.out.below (below_drewN g _ nq))
    clear c0 c1 HS2 HO2 RD2
    generalize w2.drewN nq = w3 at *
    have c0 := HS3.out.c0
    have c1 := HS3.out.c1
    have f1 := HS3.out.f1
    rcases hk with rfl | rfl
    · skip
      have tM : decide ((M : Int) < (K : Int)) = false := decide_eq_false (by omega)
      have h3 := HR.out
      rw [if_neg (by omega), if_neg (by rw [HLN.out]; omega)] at h3
      subst h3
      have HS4 := Lib.hid (HS3.out.set1 (z := (i : Int) + (K : Int)) (i + K) (by omega) (by omega))
      have HO4 := Lib.hid (HO3.out.setCell (p := ⟨g, 1, none⟩) rfl (.int .i64 ((i : Int) + (K : Int))))
      have RD4 : Hid (Rd (w3.setCell ⟨g, 1, none⟩ (.int .i64 ((i : Int) + (K : Int)))) g A9 K ((bs.drop i).take K)) := RD9.out.keep fun q hq => World.cell?_setCell_far _ _ _ _ (by show g ≠ q.block; omega)
      have HU := Lib.hid (show Ob ((w3.setCell ⟨g, 1, none⟩ (.int .i64 ((i : Int) + (K : Int)))).alloc (.cells #[] 5)) w3.heap.size 5 (.slice (some ⟨w3.heap.size, 0, none⟩) 0 0) [] by
        have h := Ob.lit (base := w3.heap.size) (t := 5) (w3.setCell ⟨g, 1, none⟩ (.int .i64 ((i : Int) + (K : Int)))) [] #[] rfl (by simp) 0 rfl (by decide)
        simpa using h)
      have HN : Hid (([] : List UInt8).length + K ≤ 140737488355328) := by show _ ≤ _; simp; omega
      have HKL : Hid (((bs.drop i).take K).length = K) := RD9.out.1
      have HS3Z := HSZ.out w3 HO3.out
      have HGL := HS3.out.lt
      have HRA : Hid (Rd ((w3.setCell ⟨g, 1, none⟩ (.int .i64 ((i : Int) + (K : Int)))).alloc (.cells #[] 5)) g A9 K ((bs.drop i).take K)) := RD4.out.alloc (by simp; omega) _
      go_wp2_with (first
        | (at_builtin; refine wpList_appB rfl (.tmp 67) (.tmp 68) 22 rfl w3.heap.size 5 Tryz.underlying22 info_u8 _ [] rfl HU.out g A9 K c9 _ rfl HRA.out HN.out (by simp) ?_; intro v1 w5 ho1 hb1; rw [List.nil_append] at ho1; obtain ⟨A2, c2, rfl, hc2, hm2, hr2⟩ := ho1.rdn HKL.out; have HR2 := Lib.hid ho1.news; have HB5 : Hid (Below (w3.setCell ⟨g, 1, none⟩ (.int .i64 ((i : Int) + (K : Int)))).heap.size (w3.setCell ⟨g, 1, none⟩ (.int .i64 ((i : Int) + (K : Int)))) w5) := ((Below.refl _ _).alloc (Nat.le_refl _) _).trans (hb1.mono (by simp)); have HO5 := Lib.hid (HO4.out.trans (Only.of_below HB5.out)); have HS5 := Lib.hid (HS4.out.below HB5.out (by simpa using HGL)); obtain ⟨⟨z0, z1, z2, z3⟩, f0, f1, f2, f3⟩ := HZ.out w5 HO5.out; clear ho1 hb1 hr2)
        | fail)
      have HO6 := Lib.hid (HB.out _ HO5.out)
      refine bodyPost_ret (v := .agg #[.int .i64 2, .int .u64 0, .slice A2 K c2, .slice none 0 0]) (by simp [results, Tryz.results46, go_sem, z0, z1, z2, z3]) rfl ?_
      exact ⟨_, _, i + K, p, 0, rfl, (RdI.mk_data (by decide) hc2 (by omega) HR2.out).fin (Nat.le_refl _) (by omega) (by omega), HS5.out.set4 HG.out, set4_only HO6.out (Nat.le_refl _), rfl, rfl, rfl, by rw [List.drop_drop]⟩
    · have CP := Lib.hid (rplain_any A9 K c9 g _ w3 RD9.out (by omega))
      cases hp : plain ((bs.drop i).take K) with
      | false =>
        rw [hp] at CP
        have hp2 : 3 = 3 ∧ plain ((bs.drop i).take K) = false := ⟨rfl, hp⟩
        clear hp
        go_wp2_with fail
        refine CP.out.mono ?_
        rintro e w0 ⟨rfl, rfl⟩
        have h3 := HR.out
        rw [if_pos hp2] at h3
        subst h3
        have C3 := Lib.hid (rfail_any HS3.out 31)
        clear c0 c1 f1
        go_wp2_with fail
        refine C3.out.mono ?_
        rintro e w4 ⟨rfl, hs4, ho4⟩
        have ho5 := HO3.out.trans ho4
        obtain ⟨⟨z0, z1, z2, z3⟩, f0, f1, f2, f3⟩ := HZ.out w4 ho5
        have HO5 := Lib.hid (HB.out _ ho5)
        have HS4 := Lib.hid hs4
        clear ho5 hs4 ho4
        unfold noItem
        go_wp2_with fail
        refine bodyPost_ret (v := noItem) (by simp [results, Tryz.results46, go_sem, z0, z1, z2, z3, noItem]) rfl ?_
        exact ⟨_, _, i, p, 31, rfl, RdI.mk_uint (n := 0) (by decide), HS4.out.set4 HG.out, set4_only HO5.out (Nat.le_refl _), rfl, by decide⟩
      | true =>
        rw [hp] at CP
        have hp2 : ¬ (3 = 3 ∧ plain ((bs.drop i).take K) = false) := by rw [hp]; simp
        clear hp
        go_wp2_with fail
        refine CP.out.mono ?_
        rintro e w0 ⟨rfl, rfl⟩
        have tM : decide ((M : Int) < (K : Int)) = false := decide_eq_false (by omega)
        have h3 := HR.out
        rw [if_neg hp2, if_neg (by rw [HLN.out]; omega)] at h3
        subst h3
        have HS4 := Lib.hid (HS3.out.set1 (z := (i : Int) + (K : Int)) (i + K) (by omega) (by omega))
        have HO4 := Lib.hid (HO3.out.setCell (p := ⟨g, 1, none⟩) rfl (.int .i64 ((i : Int) + (K : Int))))
        have RD4 : Hid (Rd (w3.setCell ⟨g, 1, none⟩ (.int .i64 ((i : Int) + (K : Int)))) g A9 K ((bs.drop i).take K)) := RD9.out.keep fun q hq => World.cell?_setCell_far _ _ _ _ (by show g ≠ q.block; omega)
        have HU := Lib.hid (show Ob ((w3.setCell ⟨g, 1, none⟩ (.int .i64 ((i : Int) + (K : Int)))).alloc (.cells #[] 5)) w3.heap.size 5 (.slice (some ⟨w3.heap.size, 0, none⟩) 0 0) [] by
          have h := Ob.lit (base := w3.heap.size) (t := 5) (w3.setCell ⟨g, 1, none⟩ (.int .i64 ((i : Int) + (K : Int)))) [] #[] rfl (by simp) 0 rfl (by decide)
          simpa using h)
        have HN : Hid (([] : List UInt8).length + K ≤ 140737488355328) := by show _ ≤ _; simp; omega
        have HKL : Hid (((bs.drop i).take K).length = K) := RD9.out.1
        have HS3Z := HSZ.out w3 HO3.out
        have HGL := HS3.out.lt
        have HRA : Hid (Rd ((w3.setCell ⟨g, 1, none⟩ (.int .i64 ((i : Int) + (K : Int)))).alloc (.cells #[] 5)) g A9 K ((bs.drop i).take K)) := RD4.out.alloc (by simp; omega) _
        go_wp2_with (first
          | (at_builtin; refine wpList_appB rfl (.tmp 67) (.tmp 68) 22 rfl w3.heap.size 5 Tryz.underlying22 info_u8 _ [] rfl HU.out g A9 K c9 _ rfl HRA.out HN.out (by simp) ?_; intro v1 w5 ho1 hb1; rw [List.nil_append] at ho1; obtain ⟨A2, c2, rfl, hc2, hm2, hr2⟩ := ho1.rdn HKL.out; have HR2 := Lib.hid ho1.news; have HB5 : Hid (Below (w3.setCell ⟨g, 1, none⟩ (.int .i64 ((i : Int) + (K : Int)))).heap.size (w3.setCell ⟨g, 1, none⟩ (.int .i64 ((i : Int) + (K : Int)))) w5) := ((Below.refl _ _).alloc (Nat.le_refl _) _).trans (hb1.mono (by simp)); have HO5 := Lib.hid (HO4.out.trans (Only.of_below HB5.out)); have HS5 := Lib.hid (HS4.out.below HB5.out (by simpa using HGL)); obtain ⟨⟨z0, z1, z2, z3⟩, f0, f1, f2, f3⟩ := HZ.out w5 HO5.out; clear ho1 hb1 hr2)
          | fail)
        have HO6 := Lib.hid (HB.out _ HO5.out)
        refine bodyPost_ret (v := .agg #[.int .i64 3, .int .u64 0, .slice A2 K c2, .slice none 0 0]) (by simp [results, Tryz.results46, go_sem, z0, z1, z2, z3]) rfl ?_
        exact ⟨_, _, i + K, p, 0, rfl, (RdI.mk_data (by decide) hc2 (by omega) HR2.out).fin (Nat.le_refl _) (by omega) (by omega), HS5.out.set4 HG.out, set4_only HO6.out (Nat.le_refl _), rfl, rfl, rfl, by rw [List.drop_drop]⟩
  · have tl : decide ((m : Int) < (M : Int)) = false := decide_eq_false (by omega)
    obtain rfl : K = M := by have := HKK.out; omega
    clear HKK
    go_wp2_with fail
    go_quiet (fail)
    have HS3 := Lib.hid (HS2.out.drewN nq)
    have HO3 := Lib.hid (HO2.out.trans (Only.of_below (below_drewN _ _ nq)))
    have RD9 := Lib.hid (RD2.out.below (below_drewN g _ nq))
    clear c0 c1 HS2 HO2 RD2
    generalize w2.drewN nq = w3 at *
    have c0 := HS3.out.c0
    have c1 := HS3.out.c1
    have f1 := HS3.out.f1
    rcases hk with rfl | rfl
    · skip
      by_cases hs : K < m
      · have tM : decide ((K : Int) < (m : Int)) = true := decide_eq_true (by omega)
        have h3 := HR.out
        rw [if_neg (by omega), if_pos (by rw [HLN.out]; exact hs)] at h3
        subst h3
        have C3 := Lib.hid (rfail_any HS3.out 30)
        clear c0 c1 f1
        go_wp2_with fail
        refine C3.out.mono ?_
        rintro e w4 ⟨rfl, hs4, ho4⟩
        have ho5 := HO3.out.trans ho4
        obtain ⟨⟨z0, z1, z2, z3⟩, f0, f1, f2, f3⟩ := HZ.out w4 ho5
        have HO5 := Lib.hid (HB.out _ ho5)
        have HS4 := Lib.hid hs4
        clear ho5 hs4 ho4
        unfold noItem
        go_wp2_with fail
        refine bodyPost_ret (v := noItem) (by simp [results, Tryz.results46, go_sem, z0, z1, z2, z3, noItem]) rfl ?_
        exact ⟨_, _, i, p, 30, rfl, RdI.mk_uint (n := 0) (by decide), HS4.out.set4 HG.out, set4_only HO5.out (Nat.le_refl _), rfl, by decide⟩
      · have tM : decide ((K : Int) < (m : Int)) = false := decide_eq_false (by omega)
        have HMK : Hid (m = K) := by show _ = _; omega
        have h3 := HR.out
        rw [if_neg (by omega), if_neg (by rw [HLN.out]; exact hs)] at h3
        subst h3
        have HS4 := Lib.hid (HS3.out.set1 (z := (i : Int) + (K : Int)) (i + K) (by omega) (by omega))
        have HO4 := Lib.hid (HO3.out.setCell (p := ⟨g, 1, none⟩) rfl (.int .i64 ((i : Int) + (K : Int))))
        have RD4 : Hid (Rd (w3.setCell ⟨g, 1, none⟩ (.int .i64 ((i : Int) + (K : Int)))) g A9 K ((bs.drop i).take m)) := RD9.out.keep fun q hq => World.cell?_setCell_far _ _ _ _ (by show g ≠ q.block; omega)
        have HU := Lib.hid (show Ob ((w3.setCell ⟨g, 1, none⟩ (.int .i64 ((i : Int) + (K : Int)))).alloc (.cells #[] 5)) w3.heap.size 5 (.slice (some ⟨w3.heap.size, 0, none⟩) 0 0) [] by
          have h := Ob.lit (base := w3.heap.size) (t := 5) (w3.setCell ⟨g, 1, none⟩ (.int .i64 ((i : Int) + (K : Int)))) [] #[] rfl (by simp) 0 rfl (by decide)
          simpa using h)
        have HN : Hid (([] : List UInt8).length + K ≤ 140737488355328) := by show _ ≤ _; simp; omega
        have HKL : Hid (((bs.drop i).take m).length = K) := RD9.out.1
        have HS3Z := HSZ.out w3 HO3.out
        have HGL := HS3.out.lt
        have HRA : Hid (Rd ((w3.setCell ⟨g, 1, none⟩ (.int .i64 ((i : Int) + (K : Int)))).alloc (.cells #[] 5)) g A9 K ((bs.drop i).take m)) := RD4.out.alloc (by simp; omega) _
        go_wp2_with (first
          | (at_builtin; refine wpList_appB rfl (.tmp 67) (.tmp 68) 22 rfl w3.heap.size 5 Tryz.underlying22 info_u8 _ [] rfl HU.out g A9 K c9 _ rfl HRA.out HN.out (by simp) ?_; intro v1 w5 ho1 hb1; rw [List.nil_append] at ho1; obtain ⟨A2, c2, rfl, hc2, hm2, hr2⟩ := ho1.rdn HKL.out; have HR2 := Lib.hid ho1.news; have HB5 : Hid (Below (w3.setCell ⟨g, 1, none⟩ (.int .i64 ((i : Int) + (K : Int)))).heap.size (w3.setCell ⟨g, 1, none⟩ (.int .i64 ((i : Int) + (K : Int)))) w5) := ((Below.refl _ _).alloc (Nat.le_refl _) _).trans (hb1.mono (by simp)); have HO5 := Lib.hid (HO4.out.trans (Only.of_below HB5.out)); have HS5 := Lib.hid (HS4.out.below HB5.out (by simpa using HGL)); obtain ⟨⟨z0, z1, z2, z3⟩, f0, f1, f2, f3⟩ := HZ.out w5 HO5.out; clear ho1 hb1 hr2)
          | fail)
        have HO6 := Lib.hid (HB.out _ HO5.out)
        refine bodyPost_ret (v := .agg #[.int .i64 2, .int .u64 0, .slice A2 K c2, .slice none 0 0]) (by simp [results, Tryz.results46, go_sem, z0, z1, z2, z3]) rfl ?_
        exact ⟨_, _, i + K, p, 0, rfl, (RdI.mk_data (by decide) hc2 (by omega) HR2.out).fin (Nat.le_refl _) (by omega) (by omega), HS5.out.set4 HG.out, set4_only HO6.out (Nat.le_refl _), rfl, rfl, rfl, by rw [List.drop_drop, HMK.out]⟩
    · have CP := Lib.hid (rplain_any A9 K c9 g _ w3 RD9.out (by omega))
      cases hp : plain ((bs.drop i).take m) with
      | false =>
        rw [hp] at CP
        have hp2 : 3 = 3 ∧ plain ((bs.drop i).take m) = false := ⟨rfl, hp⟩
        clear hp
        go_wp2_with fail
        refine CP.out.mono ?_
        rintro e w0 ⟨rfl, rfl⟩
        have h3 := HR.out
        rw [if_pos hp2] at h3
        subst h3
        have C3 := Lib.hid (rfail_any HS3.out 31)
        clear c0 c1 f1
        go_wp2_with fail
        refine C3.out.mono ?_
        rintro e w4 ⟨rfl, hs4, ho4⟩
        have ho5 := HO3.out.trans ho4
        obtain ⟨⟨z0, z1, z2, z3⟩, f0, f1, f2, f3⟩ := HZ.out w4 ho5
        have HO5 := Lib.hid (HB.out _ ho5)
        have HS4 := Lib.hid hs4
        clear ho5 hs4 ho4
        unfold noItem
        go_wp2_with fail
        refine bodyPost_ret (v := noItem) (by simp [results, Tryz.results46, go_sem, z0, z1, z2, z3, noItem]) rfl ?_
        exact ⟨_, _, i, p, 31, rfl, RdI.mk_uint (n := 0) (by decide), HS4.out.set4 HG.out, set4_only HO5.out (Nat.le_refl _), rfl, by decide⟩
      | true =>
        rw [hp] at CP
        have hp2 : ¬ (3 = 3 ∧ plain ((bs.drop i).take m) = false) := by rw [hp]; simp
        clear hp
        go_wp2_with fail
        refine CP.out.mono ?_
        rintro e w0 ⟨rfl, rfl⟩
        by_cases hs : K < m
        · have tM : decide ((K : Int) < (m : Int)) = true := decide_eq_true (by omega)
          have h3 := HR.out
          rw [if_neg hp2, if_pos (by rw [HLN.out]; exact hs)] at h3
          subst h3
          have C3 := Lib.hid (rfail_any HS3.out 30)
          clear c0 c1 f1
          go_wp2_with fail
          refine C3.out.mono ?_
          rintro e w4 ⟨rfl, hs4, ho4⟩
          have ho5 := HO3.out.trans ho4
          obtain ⟨⟨z0, z1, z2, z3⟩, f0, f1, f2, f3⟩ := HZ.out w4 ho5
          have HO5 := Lib.hid (HB.out _ ho5)
          have HS4 := Lib.hid hs4
          clear ho5 hs4 ho4
          unfold noItem
          go_wp2_with fail
          refine bodyPost_ret (v := noItem) (by simp [results, Tryz.results46, go_sem, z0, z1, z2, z3, noItem]) rfl ?_
          exact ⟨_, _, i, p, 30, rfl, RdI.mk_uint (n := 0) (by decide), HS4.out.set4 HG.out, set4_only HO5.out (Nat.le_refl _), rfl, by decide⟩
        · have tM : decide ((K : Int) < (m : Int)) = false := decide_eq_false (by omega)
          have HMK : Hid (m = K) := by show _ = _; omega
          have h3 := HR.out
          rw [if_neg hp2, if_neg (by rw [HLN.out]; exact hs)] at h3
          subst h3
          have HS4 := Lib.hid (HS3.out.set1 (z := (i : Int) + (K : Int)) (i + K) (by omega) (by omega))
          have HO4 := Lib.hid (HO3.out.setCell (p := ⟨g, 1, none⟩) rfl (.int .i64 ((i : Int) + (K : Int))))
          have RD4 : Hid (Rd (w3.setCell ⟨g, 1, none⟩ (.int .i64 ((i : Int) + (K : Int)))) g A9 K ((bs.drop i).take m)) := RD9.out.keep fun q hq => World.cell?_setCell_far _ _ _ _ (by show g ≠ q.block; omega)
          have HU := Lib.hid (show Ob ((w3.setCell ⟨g, 1, none⟩ (.int .i64 ((i : Int) + (K : Int)))).alloc (.cells #[] 5)) w3.heap.size 5 (.slice (some ⟨w3.heap.size, 0, none⟩) 0 0) [] by
            have h := Ob.lit (base := w3.heap.size) (t := 5) (w3.setCell ⟨g, 1, none⟩ (.int .i64 ((i : Int) + (K : Int)))) [] #[] rfl (by simp) 0 rfl (by decide)
            simpa using h)
          have HN : Hid (([] : List UInt8).length + K ≤ 140737488355328) := by show _ ≤ _; simp; omega
          have HKL : Hid (((bs.drop i).take m).length = K) := RD9.out.1
          have HS3Z := HSZ.out w3 HO3.out
          have HGL := HS3.out.lt
          have HRA : Hid (Rd ((w3.setCell ⟨g, 1, none⟩ (.int .i64 ((i : Int) + (K : Int)))).alloc (.cells #[] 5)) g A9 K ((bs.drop i).take m)) := RD4.out.alloc (by simp; omega) _
          go_wp2_with (first
            | (at_builtin; refine wpList_appB rfl (.tmp 67) (.tmp 68) 22 rfl w3.heap.size 5 Tryz.underlying22 info_u8 _ [] rfl HU.out g A9 K c9 _ rfl HRA.out HN.out (by simp) ?_; intro v1 w5 ho1 hb1; rw [List.nil_append] at ho1; obtain ⟨A2, c2, rfl, hc2, hm2, hr2⟩ := ho1.rdn HKL.out; have HR2 := Lib.hid ho1.news; have HB5 : Hid (Below (w3.setCell ⟨g, 1, none⟩ (.int .i64 ((i : Int) + (K : Int)))).heap.size (w3.setCell ⟨g, 1, none⟩ (.int .i64 ((i : Int) + (K : Int)))) w5) := ((Below.refl _ _).alloc (Nat.le_refl _) _).trans (hb1.mono (by simp)); have HO5 := Lib.hid (HO4.out.trans (Only.of_below HB5.out)); have HS5 := Lib.hid (HS4.out.below HB5.out (by simpa using HGL)); obtain ⟨⟨z0, z1, z2, z3⟩, f0, f1, f2, f3⟩ := HZ.out w5 HO5.out; clear ho1 hb1 hr2)
            | fail)
          have HO6 := Lib.hid (HB.out _ HO5.out)
          refine bodyPost_ret (v := .agg #[.int .i64 3, .int .u64 0, .slice A2 K c2, .slice none 0 0]) (by simp [results, Tryz.results46, go_sem, z0, z1, z2, z3]) rfl ?_
          exact ⟨_, _, i + K, p, 0, rfl, (RdI.mk_data (by decide) hc2 (by omega) HR2.out).fin (Nat.le_refl _) (by omega) (by omega), HS5.out.set4 HG.out, set4_only HO6.out (Nat.le_refl _), rfl, rfl, rfl, by rw [List.drop_drop, HMK.out]⟩
end
end Go.Proofs.YtbdjkihgcmebgaaGreatDoor
/- The reference's reader of layer 3: lists as they grow; arrays without a length. (Made by gen/RgC.py.) -/
namespace Go.Proofs.YtbdjkihgcmebgaaGreatDoor
open Go.RowKit

/-- What item returns with D levels of arrays left. -/
def ItemG (D : Nat) : Prop := ∀ (w : World) (g : Nat) (A : Option Addr) (n c : Nat) (bs : List UInt8) (i p d : Nat), d + D = 8 → p ≤ 4096 → RSt w g A n c bs i p 0 →
    Calls Tryz.prog 29 #[.pointer (some ⟨g, 0, none⟩), .int .i64 (d : Int)] w (GivesG g A n c bs (dec D p (bs.drop i)) w)
/-- How far a call has come, by the reader's state: nothing behind a fault. -/
def goOf (w : World) (g n : Nat) : Nat := match w.cell? ⟨g, 3, none⟩ with | some (.int _ 0) => leftOf w g n + 1 | _ => 0
section
variable {w wr w1 wa w3 : World} {g n c i p e d D f : Nat} {A : Option Addr} {bs : List UInt8} {k : Int} {vL : Value} {cells : List Value} {xs : List Itm} {R : Except Int (List Itm × Nat × List UInt8)}
theorem goOf_0 (h : RSt w g A n c bs i p 0) : goOf w g n = n - i + 1 := by
  unfold goOf
  rw [h.c3, leftOf_st h]
  rfl
theorem goOf_e (h : RSt w g A n c bs i p e) (he : 0 < e) : goOf w g n = 0 := by
  unfold goOf
  rw [h.c3]
  obtain ⟨q, rfl⟩ : ∃ q, e = q + 1 := ⟨e - 1, by omega⟩
  rfl
/-- One item more, whatever new memory was laid behind the call. -/
theorem LstSt.pushB (h : LstSt w wr g k vL cells xs) (ho : Only g wr w1) (hg : g < w.heap.size) {c0 c1 c2 c3 : Value} {x : Itm} (hx : RdI (mask (lows wr.heap.size) w1) w1.heap.size (.agg #[c0, c1, c2, c3]) x) (hba : Below w1.heap.size w1 wa)
    {g2 cap m : Nat} (hm : xs.length = m) (hown : w3.ownsRow (w.heap.size + 2) 42 4 (.slice (some ⟨g2, 0, none⟩) (m + 1) cap) (m + 1) (cells ++ [c0, c1, c2, c3])) (hgr : wa.grownBy w3 vL.ownBlock) (hor : vL.ownBlock = some g2 ∨ g2 = wa.heap.size) :
    LstSt w (w3.setCell ⟨w.heap.size + 1, 3, none⟩ (.slice (some ⟨g2, 0, none⟩) (m + 1) cap)) g k (.slice (some ⟨g2, 0, none⟩) (m + 1) cap) (cells ++ [c0, c1, c2, c3]) (xs ++ [x]) := by
  subst hm
  have h1 := h.on (ho.trans (Only.of_below hba)) hg
  have hza := hba.size
  have hzr := ho.size
  have hsz := h.sz
  have hlt := fun q (e : vL.ownBlock = some q) => World.ownsRow.lt h.own q e
  have hz3 := hgr.size
  have hb : ∀ j, j < wa.heap.size → vL.ownBlock ≠ some j → w3.heap[j]? = wa.heap[j]? := fun j hj hne => hgr.block j hj (fun e => hne e.symm)
  have hlow : ∀ j, j < w.heap.size + 2 → vL.ownBlock ≠ some j := fun j hj e => by have := (hlt j e).1; omega
  have c := fun (q : Addr) (hq : q.block < w.heap.size + 2) => World.cell?_of_block (w := wa) (a := q) (hb q.block (by omega) (hlow _ hq))
  have f := fun (q : Addr) (hq : q.block < w.heap.size + 2) => World.frozen?_of_block (w := wa) (a := q) (hb q.block (by omega) (hlow _ hq))
  have m0 : w.heap.size < w.heap.size + 2 := by omega
  have m1 : w.heap.size + 1 < w.heap.size + 2 := by omega
  have k0 : ∀ j u, w3.cell? ⟨w.heap.size, j, none⟩ = some u → (w3.setCell ⟨w.heap.size + 1, 3, none⟩ (.slice (some ⟨g2, 0, none⟩) (xs.length + 1) cap)).cell? ⟨w.heap.size, j, none⟩ = some u := fun j u hu => by
    rw [World.cell?_setCell_far _ _ _ _ (by show w.heap.size + 1 ≠ w.heap.size; omega)]; exact hu
  have hnew : ∀ j, j < wa.heap.size → vL.ownBlock ≠ some j → g2 ≠ j := fun j hj hne e => by
    rcases hor with e2 | e2
    · exact hne (by rw [e2, e])
    · omega
  refine ⟨cell_set_ne (by decide) ((c _ m1).trans h1.b0), cell_set_ne (by decide) ((c _ m1).trans h1.b1), cell_set_ne (by decide) ((c _ m1).trans h1.b2), World.cell?_setCell_same _ _ _ ((c _ m1).trans h1.b3), by rw [World.frozen?_setCell]; exact (f _ m1).trans h1.bf,
    k0 _ _ ((c _ m0).trans h1.z0), k0 _ _ ((c _ m0).trans h1.z1), k0 _ _ ((c _ m0).trans h1.z2), k0 _ _ ((c _ m0).trans h1.z3),
    by rw [World.frozen?_setCell]; exact (f _ m0).trans h1.f0, by rw [World.frozen?_setCell]; exact (f _ m0).trans h1.f1, by rw [World.frozen?_setCell]; exact (f _ m0).trans h1.f2, by rw [World.frozen?_setCell]; exact (f _ m0).trans h1.f3, ?_, ?_, ?_, ?_⟩
  · rw [List.length_append, List.length_singleton]
    refine World.ownsRow.kept hown (row := some (w.heap.size + 1)) ⟨rfl, rfl, rfl, by simp [World.setCell], fun j _ hne => Below.heap_setCell _ _ _ _ (fun e => hne (by rw [e]))⟩ (.inr fun e => ?_)
    have := (World.ownsRow.lt hown g2 rfl).1
    injection e with e
    simp at e
    omega
  · refine ItC.snoc ?_ ?_
    · refine hx.mask_go (by simp [World.setCell]; omega) (fun j hj hs => ?_) (fun j hj hs => ?_)
      · have hs' := lows_f.1 hs
        have hne : vL.ownBlock ≠ some j := fun e => by have := (hlt j e).2; omega
        rw [Below.heap_setCell _ _ _ _ (by show j ≠ w.heap.size + 1; omega), hb j (by omega) hne, hba.block j hj]
      · have hs' := lows_f.1 hs
        have hne : vL.ownBlock ≠ some j := fun e => by have := (hlt j e).2; omega
        exact lowsOr_f.2 ⟨by omega, fun e => hnew j (by omega) hne (by injection e)⟩
    · refine (h1.its).mask_go (by simp [World.setCell]; omega) (fun j hj hs => ?_) (fun j hj hs => ?_)
      · have hs' := lowsOr_f.1 hs
        rw [Below.heap_setCell _ _ _ _ (by show j ≠ w.heap.size + 1; omega), hb j hj hs'.2]
      · have hs' := lowsOr_f.1 hs
        exact lowsOr_f.2 ⟨hs'.1, fun e => hnew j hj hs'.2 (by injection e)⟩
  · have ho1 := h1.only
    refine ⟨hgr.os.trans ho1.os, hgr.tape.trans ho1.tape, hgr.output.trans ho1.output, by simp [World.setCell]; omega, fun j hj hne => ?_⟩
    rw [Below.heap_setCell _ _ _ _ (by show j ≠ w.heap.size + 1; omega), hb j (by omega) (hlow j (by omega))]
    exact ho1.block j hj hne
  · simp [World.setCell]; omega
/-- The cells of one item in a block of its own. -/
theorem one_row (W : World) (c0 c1 c2 c3 : Value) {t : TypeId} : ∀ j u, ([c0, c1, c2, c3] : List Value)[j]? = some u → (W.alloc (.cells #[c0, c1, c2, c3] t)).cell? ((⟨W.heap.size, 0, none⟩ : Addr).add j) = some u := fun j u hj => by
  rw [addr0, World.cell?_alloc_at _ _ _ _ rfl]
  simpa using hj

/-- How far an endless array has come. -/
structure EndS (w wr : World) (g : Nat) (A : Option Addr) (n c : Nat) (bs : List UInt8) (D f i p e : Nat) (vL : Value) (cells : List Value) (xs : List Itm) (R : Except Int (List Itm × Nat × List UInt8)) : Prop where
  st : RSt wr g A n c bs i p e
  ls : LstSt w wr g 5 vL cells xs
  hj : xs.length ≤ 4097
  go : (e = 0 ∧ (bs.drop i).length < f ∧ p ≤ 4096 ∧ xs.length ≤ p ∧ R = prep xs (endl (dec D) f p (bs.drop i))) ∨ (0 < e ∧ R = .error (e : Int))
theorem EndS.on (h : EndS w wr g A n c bs D f i p e vL cells xs R) (hb : Below wr.heap.size wr w1) (hg : g < w.heap.size) : EndS w w1 g A n c bs D f i p e vL cells xs R :=
  ⟨h.st.below hb h.st.lt, h.ls.on (Only.of_below hb) hg, h.hj, h.go⟩
/-- An item more, or a fault. -/
theorem EndS.next (h : EndS w wr g A n c bs D f i p 0 vL cells xs R) {y : UInt8} (hy : bs.drop i = y :: bs.drop (i + 1)) (hne : y ≠ 0xff) {x : Itm} {i1 p1 e1 : Nat} (hm : MeanG bs (dec D p (bs.drop i)) x i1 p1 e1) {w4 : World} {vL' : Value} {cells' : List Value}
    (hst : RSt w4 g A n c bs i1 p1 e1) (hls : LstSt w w4 g 5 vL' cells' (xs ++ [x])) : EndS w w4 g A n c bs D (f - 1) i1 p1 e1 vL' cells' (xs ++ [x]) R ∧ goOf w4 g n < goOf wr g n := by
  rcases h.go with ⟨-, hf, hp, hjp, heq⟩ | ⟨h0, -⟩
  · have hl := h.st.rd.1
    rw [goOf_0 h.st]
    rcases hd : dec D p (bs.drop i) with z | ⟨x', p', l'⟩
    · rw [hd] at hm
      obtain ⟨rfl, he⟩ := hm
      rw [goOf_e hst he]
      refine ⟨⟨hst, hls, by rw [List.length_append, List.length_singleton]; omega, .inr ⟨he, ?_⟩⟩, by omega⟩
      rw [heq, hy, endl_succ _ _ _ _ (by omega) hne, ← hy, hd]
      rfl
    · rw [hd] at hm
      obtain ⟨rfl, rfl, rfl, hl1⟩ := hm
      obtain ⟨e1, -, -, -, e5, e6⟩ := dec_ok D p _ x p1 l' hp hd
      obtain ⟨cc, rr, hw, -⟩ := wr_ne x
      have hpp := par_pos x
      have hlen : l'.length < (bs.drop i).length := by rw [e1, hw]; simp; omega
      have hl1' := hlen
      rw [← hl1, List.length_drop, List.length_drop] at hl1'
      rw [goOf_0 hst]
      refine ⟨⟨hst, hls, by rw [List.length_append, List.length_singleton]; omega, .inl ⟨rfl, by rw [hl1]; omega, e6, by rw [List.length_append, List.length_singleton]; omega, ?_⟩⟩, by omega⟩
      rw [heq, hy, endl_succ _ _ _ _ (by omega) hne, ← hy, hd, hl1]
      show prep xs (match endl (dec D) (f - 1) p1 l' with | .error e => .error e | .ok (ys, p2, l2) => .ok (x :: ys, p2, l2)) = _
      rcases endl (dec D) (f - 1) p1 l' with z | ⟨ys, q, l''⟩
      · rfl
      · simp [prep]
  · exact absurd h0 (Nat.lt_irrefl 0)
theorem EndS.short (h : EndS w wr g A n c bs D f i p 0 vL cells xs R) (he : ¬ i < n) : R = .error 30 := by
  rcases h.go with ⟨-, hf, hp, hjp, heq⟩ | ⟨h0, -⟩
  · have hl := h.st.rd.1
    have e : bs.drop i = [] := List.drop_eq_nil_of_le (by omega)
    obtain ⟨q, rfl⟩ : ∃ q, f = q + 1 := ⟨f - 1, by omega⟩
    rw [heq, e]
    rfl
  · exact absurd h0 (Nat.lt_irrefl 0)
theorem EndS.done (h : EndS w wr g A n c bs D f i p 0 vL cells xs R) (hy : bs.drop i = 0xff :: bs.drop (i + 1)) : R = .ok (xs, p, bs.drop (i + 1)) := by
  rcases h.go with ⟨-, hf, hp, hjp, heq⟩ | ⟨h0, -⟩
  · obtain ⟨q, rfl⟩ : ∃ q, f = q + 1 := ⟨f - 1, by omega⟩
    rw [heq, hy, endl, if_pos rfl, prep, List.append_nil]
  · exact absurd h0 (Nat.lt_irrefl 0)
/-- The list is a slice. -/
theorem LstSt.slc (h : LstSt w wr g k vL cells xs) : ∃ AL nL cL, vL = .slice AL nL cL := by
  rcases h.own.2 with ⟨hv, _⟩ | ⟨q, cap, cur, hv, _⟩ <;> exact ⟨_, _, _, hv⟩

set_option maxRecDepth 100000 in
set_option maxHeartbeats 8000000 in
theorem rendless_any (IH : Hid (ItemG D)) (hD : d + 1 + D = 8) (hp : p ≤ 4096) (h : RSt w g A n c bs i p 0) :
    Calls Tryz.prog 44 #[.pointer (some ⟨g, 0, none⟩), .int .i64 (d : Int)] w (GivesG g A n c bs (lst 5 (endl (dec D) ((bs.drop i).length + 1) p (bs.drop i))) w) := by
  obtain ⟨R, hR⟩ : ∃ R, R = endl (dec D) ((bs.drop i).length + 1) p (bs.drop i) := ⟨_, rfl⟩
  rw [← hR]
  have hg := h.lt
  have HG := Lib.hid hg
  have hls := LstSt.start hg 5
  have hs0 := (h.alloc (.cells #[.int .i64 0, .int .u64 0, .slice none 0 0, .slice none 0 0] 42)).alloc (.cells #[.int .i64 5, .int .u64 0, .slice none 0 0, .slice none 0 0] 42)
  have HST := Lib.hid (show EndS w _ g A n c bs D ((bs.drop i).length + 1) i p 0 (.slice none 0 0) [] [] R from ⟨hs0, hls, by simp, .inl ⟨rfl, Nat.lt_succ_self _, hp, Nat.zero_le _, by rw [prep_nil]; exact hR⟩⟩)
  have hd8 : d ≤ 7 := by omega
  have hwk : IntKind.i64.wrap ((d : Int) + 1) = ((d + 1 : Nat) : Int) := by rw [IntKind.wrap_i64]; omega
  have HD := Lib.hid hD
  obtain ⟨i0, hi0, hz0, hz1, hz2⟩ := info_parts info_item
  have HI := Lib.hid hi0
  have HI0 := Lib.hid hz0
  have HI1 := Lib.hid hz1
  have HI2 := Lib.hid hz2
  clear hR hls hs0 h hg hi0 hz0 hz1 hz2 hp
  go_enter Tryz.func44, Tryz.ntmps44
  go_wp2_with fail
  go_loopw [7] (fun _ wr => ∃ (f i p e : Nat) (vL : Value) (cells : List Value) (xs : List Itm), Hid (EndS w wr g A n c bs D f i p e vL cells xs R)) (fun _ wr => goOf wr g n)
  case atStart => exact ⟨_, i, p, 0, _, _, _, HST.out⟩
  case round =>
    obtain ⟨f, i, p, e, vL, cells, xs, hst⟩ := hrel
    clear HST
    by_cases he : e = 0
    case neg =>
      have q3 := hst.out.st.c3
      have te : ((e : Int) == 0) = false := by rw [beq_eq_false_iff_ne]; omega
      obtain ⟨AL, nL, cL, rfl⟩ := hst.out.ls.slc
      have b0 := hst.out.ls.b0
      have b1 := hst.out.ls.b1
      have b2 := hst.out.ls.b2
      have b3 := hst.out.ls.b3
      have bf := hst.out.ls.bf
      have z0 := hst.out.ls.z0
      have z1 := hst.out.ls.z1
      have z2 := hst.out.ls.z2
      have z3 := hst.out.ls.z3
      have f0 := hst.out.ls.f0
      have f1 := hst.out.ls.f1
      have f2 := hst.out.ls.f2
      have f3 := hst.out.ls.f3
      have HQ : Hid (R = .error (e : Int) ∧ 0 < e) := by
        rcases hst.out.go with ⟨h0, -⟩ | ⟨h0, h1⟩
        · exact absurd h0 he
        · exact ⟨h1, h0⟩
      go_wp2_with fail
      refine bodyPost_ret (v := .agg #[.int .i64 5, .int .u64 0, .slice none 0 0, .slice AL nL cL]) (by simp [results, Tryz.results44, go_sem, z0, z1, z2, z3]) rfl ?_
      refine ⟨_, _, i, p, e, rfl, (hst.out.ls.read (by decide) (by have := hst.out.hj; omega)).fin (Nat.le_refl _) (by omega) (by omega), hst.out.st.set4 HG.out, set4_only hst.out.ls.only (Nat.le_refl _), ?_⟩
      rw [HQ.out.1]
      exact ⟨rfl, HQ.out.2⟩
    subst he
    have q3 : wr.cell? ⟨g, 3, none⟩ = some (.int .i64 0) := hst.out.st.c3
    have c0 := hst.out.st.c0
    have c1 := hst.out.st.c1
    have hin := hst.out.st.hi
    have hn6 := hst.out.st.hn
    by_cases hlt : i < n
    case neg =>
      have tn : (n : Int) ≤ (i : Int) := by omega
      have hRz := hst.out.short hlt
      go_wp2_with fail
      go_quiet (fail)
      have HS0 := Lib.hid (hst.out.on (below_drewN wr.heap.size wr nq) HG.out)
      have C3 := Lib.hid (rfail_any HS0.out.st 30)
      go_wp2_with fail
      refine C3.out.mono ?_
      rintro e w4 ⟨rfl, hs4, ho4⟩
      have hls4 := HS0.out.ls.on ho4 HG.out
      have z0 := hls4.z0
      have z1 := hls4.z1
      have z2 := hls4.z2
      have z3 := hls4.z3
      have f0 := hls4.f0
      have f1 := hls4.f1
      have f2 := hls4.f2
      have f3 := hls4.f3
      have HO := Lib.hid hls4.only
      have HS4 := Lib.hid hs4
      have HRZ := Lib.hid hRz
      clear hls4 hs4 ho4 hRz
      unfold noItem
      go_wp2_with fail
      refine bodyPost_ret (v := noItem) (by simp [results, Tryz.results44, go_sem, z0, z1, z2, z3, noItem]) rfl ?_
      refine ⟨_, _, i, p, 30, rfl, RdI.mk_uint (n := 0) (by decide), HS4.out.set4 HG.out, set4_only HO.out (Nat.le_refl _), ?_⟩
      rw [HRZ.out]
      exact ⟨rfl, by decide⟩
    have tn : (i : Int) < (n : Int) := by omega
    have i0' : (0 : Int) ≤ (i : Int) := by omega
    obtain ⟨b, oo, x, rfl, hcx, hy, hb⟩ := hst.out.st.byte hlt
    have HY := Lib.hid hy
    clear hy hb
    by_cases hff : x = 0xff
    · subst hff
      have hcx2 : wr.cell? ⟨b, oo + i, none⟩ = some (.int .u8 255) := hcx
      clear hcx
      have hRd := hst.out.done HY.out
      go_wp2_with fail
      go_quiet (fail)
      have HSA := Lib.hid (hst.out.on (below_drewN wr.heap.size wr nq) HG.out)
      have HMA : Hid (goOf (wr.drewN nq) g n = goOf wr g n) := rfl
      have hcx3 : (wr.drewN nq).cell? ⟨b, oo + i, none⟩ = _ := hcx2
      clear c0 c1 q3 hcx2
      generalize wr.drewN nq = W0 at *
      have c0 := HSA.out.st.c0
      have c1 := HSA.out.st.c1
      go_wp2_with fail
      go_quiet (fail)
      have HS0 := Lib.hid (HSA.out.on (below_drewN W0.heap.size W0 nq) HG.out)
      clear c0 c1 hcx3 HSA HMA
      generalize W0.drewN nq = W1 at *
      have q1 := HS0.out.st.c1
      have qf := HS0.out.st.f1
      have hs1 := HS0.out.st.set1 (z := (i : Int) + 1) (i + 1) (by omega) (by omega)
      have hls1 := HS0.out.ls.on ((Only.refl g W1).setCell (p := ⟨g, 1, none⟩) rfl (.int .i64 ((i : Int) + 1))) HG.out
      obtain ⟨AL, nL, cL, rfl⟩ := hls1.slc
      have b0 := hls1.b0
      have b1 := hls1.b1
      have b2 := hls1.b2
      have b3 := hls1.b3
      have bf := hls1.bf
      have z0 := hls1.z0
      have z1 := hls1.z1
      have z2 := hls1.z2
      have z3 := hls1.z3
      have f0 := hls1.f0
      have f1 := hls1.f1
      have f2 := hls1.f2
      have f3 := hls1.f3
      have HLS1 := Lib.hid hls1
      have HS1 := Lib.hid hs1
      have HRD := Lib.hid hRd
      clear hs1 hls1 hRd
      go_wp2_with fail
      refine bodyPost_ret (v := .agg #[.int .i64 5, .int .u64 0, .slice none 0 0, .slice AL nL cL]) (by simp [results, Tryz.results44, go_sem, z0, z1, z2, z3]) rfl ?_
      refine ⟨_, _, i + 1, p, 0, rfl, (HLS1.out.read (by decide) (by have := hst.out.hj; omega)).fin (Nat.le_refl _) (by omega) (by omega), HS1.out.set4 HG.out, set4_only HLS1.out.only (Nat.le_refl _), ?_⟩
      rw [HRD.out]
      exact ⟨rfl, rfl, rfl, rfl⟩
    · have hxf : ((x.toNat : Int) == 255) = false := by
        have : x.toNat ≠ 255 := fun e => hff (UInt8.toNat_inj.1 e)
        simp; omega
      have HFF := Lib.hid hff
      clear hff
      generalize x.toNat = X at *
      go_wp2_with fail
      go_quiet (fail)
      have HSA := Lib.hid (hst.out.on (below_drewN wr.heap.size wr nq) HG.out)
      have HMA : Hid (goOf (wr.drewN nq) g n = goOf wr g n) := rfl
      have hcx3 : (wr.drewN nq).cell? ⟨b, oo + i, none⟩ = _ := hcx
      clear c0 c1 q3 hcx
      generalize wr.drewN nq = W0 at *
      have c0 := HSA.out.st.c0
      have c1 := HSA.out.st.c1
      go_wp2_with fail
      go_quiet (fail)
      have HS0 := Lib.hid (HSA.out.on (below_drewN W0.heap.size W0 nq) HG.out)
      have HMS : Hid (goOf (W0.drewN nq) g n = goOf wr g n) := HMA.out
      clear c0 c1 hcx3 HSA HMA
      generalize W0.drewN nq = W1 at *
      have HLS := Lib.hid HS0.out.ls
      have HST := Lib.hid HS0.out.st
      have HP : Hid (p ≤ 4096) := by
        rcases HS0.out.go with ⟨-, -, h, -⟩ | ⟨h0, -⟩
        · exact h
        · exact absurd h0 (Nat.lt_irrefl 0)
      have HXL := Lib.hid HS0.out.hj
      go_wp2_with fail
      try simp only [Act.put]
      try simp only [List.setIfInBounds_toArray]
      try simp only [List.set_cons_succ]
      try simp only [List.set_cons_zero]
      refine wp_region_held_drew (S := fun _ => True) (by kernel_rfl) trivial (fun _ => ?_)
      refine takeR (i := 0) (v := .pointer (some ⟨w.heap.size + 1, 3, none⟩)) rfl (by kernel_rfl) (by kernel_rfl) (by kernel_rfl) (fun _ _ _ h => h) (by rfl) (by intro W hSw; go_simp) trivial ?_
      try simp only [Act.put]
      try simp only [List.setIfInBounds_toArray]
      try simp only [List.set_cons_succ]
      try simp only [List.set_cons_zero]
      refine takeR (i := 2) (v := .pointer (some ⟨g, 0, none⟩)) rfl (by kernel_rfl) (by kernel_rfl) (by kernel_rfl) (fun _ _ _ h => h) (by rfl) (by intro W hSw; go_simp) trivial ?_
      try simp only [Act.put]
      try simp only [List.setIfInBounds_toArray]
      try simp only [List.set_cons_succ]
      try simp only [List.set_cons_zero]
      refine takeR (i := 3) (v := .int .i64 (d : Int)) rfl (by kernel_rfl) (by kernel_rfl) (by kernel_rfl) (fun _ _ _ h => h) (by rfl) (by intro W hSw; go_simp) trivial ?_
      try simp only [Act.put]
      try simp only [List.setIfInBounds_toArray]
      try simp only [List.set_cons_succ]
      try simp only [List.set_cons_zero]
      refine takeR (i := 4) (v := .int .i64 ((d + 1 : Nat) : Int)) rfl (by kernel_rfl) (by kernel_rfl) (by kernel_rfl) (fun _ _ _ h => h) (by rfl) (by intro W hSw; go_simp) trivial ?_
      try simp only [Act.put]
      try simp only [List.setIfInBounds_toArray]
      try simp only [List.set_cons_succ]
      try simp only [List.set_cons_zero]
      have BT : Hid (Below W1.heap.size W1 W1.drew) := Below.drew_
      have HLC := Lib.hid (HLS.out.on (Only.of_below BT.out) HG.out)
      have CI := Lib.hid (IH.out W1.drew g _ n c bs i p (d + 1) (by omega) HP.out (HST.out.below BT.out HST.out.lt))
      obtain ⟨wc, hwc⟩ : ∃ wc, wc = W1.drew := ⟨_, rfl⟩
      rw [← hwc] at BT HLC CI
      rw [← hwc]
      clear hwc
      refine wpAnyH_ready (rs := [1, 5]) (by kernel_rfl) (by simp) ?_
      refine AllReadyH.cons rfl (fun K hK => ?A) (AllReadyH.cons rfl (fun K hK => ?B) AllReadyH.nil)
      case' A =>
        rw [if_pos (by rfl)]
        have y3 := HLC.out.b3
        go_simp
        refine hK.out _ _ trivial (fun _ => ?_)
        try simp only [Act.put]
        try simp only [List.setIfInBounds_toArray]
        try simp only [List.set_cons_succ]
        try simp only [List.set_cons_zero]
        clear hK K
        clear y3
        refine wpAnyH_ready (rs := [5]) (by kernel_rfl) (by simp) ?_
        refine AllReadyH.cons rfl (fun K hK => ?_) AllReadyH.nil
        rw [if_pos (by rfl)]
        go_simp
        refine CI.out.mono ?_
        rintro e w1 ⟨v, y, i1, p1, e1, rfl, hv, hs1, ho1, hm1⟩
        obtain ⟨k1, n1, A1, nd1, cd1, AL1, nl1, cl1, rfl⟩ := hv.form
        have HV := Lib.hid hv
        have HS1 := Lib.hid hs1
        have HO1 := Lib.hid ho1
        have HM1 := Lib.hid hm1
        have HL1 := Lib.hid (HLC.out.on ho1 HG.out)
        clear hv hs1 ho1 hm1 CI
        go_simp
        refine hK.out _ _ trivial (fun _ => ?_)
        try simp only [Act.put]
        try simp only [List.setIfInBounds_toArray]
        try simp only [List.set_cons_succ]
        try simp only [List.set_cons_zero]
        clear hK K
        refine wpAnyH_ready (rs := [6]) (by kernel_rfl) (by simp) ?_
        refine AllReadyH.cons rfl (fun K hK => ?_) AllReadyH.nil
        rw [if_pos (by rfl)]
        go_simp
        refine hK.out _ _ trivial (fun _ => ?_)
        try simp only [Act.put]
        try simp only [List.setIfInBounds_toArray]
        try simp only [List.set_cons_succ]
        try simp only [List.set_cons_zero]
        clear hK K
      case' B =>
        rw [if_pos (by rfl)]
        go_simp
        refine CI.out.mono ?_
        rintro e w1 ⟨v, y, i1, p1, e1, rfl, hv, hs1, ho1, hm1⟩
        obtain ⟨k1, n1, A1, nd1, cd1, AL1, nl1, cl1, rfl⟩ := hv.form
        have HV := Lib.hid hv
        have HS1 := Lib.hid hs1
        have HO1 := Lib.hid ho1
        have HM1 := Lib.hid hm1
        have HL1 := Lib.hid (HLC.out.on ho1 HG.out)
        clear hv hs1 ho1 hm1 CI
        go_simp
        refine hK.out _ _ trivial (fun _ => ?_)
        try simp only [Act.put]
        try simp only [List.setIfInBounds_toArray]
        try simp only [List.set_cons_succ]
        try simp only [List.set_cons_zero]
        clear hK K
        refine wpAnyH_ready (rs := [1, 6]) (by kernel_rfl) (by simp) ?_
        refine AllReadyH.cons rfl (fun K hK => ?C) (AllReadyH.cons rfl (fun K hK => ?D) AllReadyH.nil)
      case' C =>
        rw [if_pos (by rfl)]
        have y3 := HL1.out.b3
        go_simp
        refine hK.out _ _ trivial (fun _ => ?_)
        try simp only [Act.put]
        try simp only [List.setIfInBounds_toArray]
        try simp only [List.set_cons_succ]
        try simp only [List.set_cons_zero]
        clear hK K
        clear y3
        refine wpAnyH_ready (rs := [6]) (by kernel_rfl) (by simp) ?_
        refine AllReadyH.cons rfl (fun K hK => ?_) AllReadyH.nil
        rw [if_pos (by rfl)]
        go_simp
        refine hK.out _ _ trivial (fun _ => ?_)
        try simp only [Act.put]
        try simp only [List.setIfInBounds_toArray]
        try simp only [List.set_cons_succ]
        try simp only [List.set_cons_zero]
        clear hK K
      case' D =>
        rw [if_pos (by rfl)]
        go_simp
        refine hK.out _ _ trivial (fun _ => ?_)
        try simp only [Act.put]
        try simp only [List.setIfInBounds_toArray]
        try simp only [List.set_cons_succ]
        try simp only [List.set_cons_zero]
        clear hK K
        refine wpAnyH_ready (rs := [1]) (by kernel_rfl) (by simp) ?_
        refine AllReadyH.cons rfl (fun K hK => ?_) AllReadyH.nil
        rw [if_pos (by rfl)]
        have y3 := (HL1.out.on (Only.of_below ((Below.refl _ _).alloc (Nat.le_refl _) (.cells #[.int .i64 k1, .int .u64 (n1 : Int), .slice A1 nd1 cd1, .slice AL1 nl1 cl1] 42))) HG.out).b3
        go_simp
        refine hK.out _ _ trivial (fun _ => ?_)
        try simp only [Act.put]
        try simp only [List.setIfInBounds_toArray]
        try simp only [List.set_cons_succ]
        try simp only [List.set_cons_zero]
        clear hK K
        clear y3
      all_goals
        have HBA : Hid (Below w1.heap.size w1 (w1.alloc (.cells #[.int .i64 k1, .int .u64 (n1 : Int), .slice A1 nd1 cd1, .slice AL1 nl1 cl1] 42))) := (Below.refl _ _).alloc (Nat.le_refl _) _
        have HL2 := Lib.hid (HL1.out.on (Only.of_below HBA.out) HG.out)
        obtain ⟨j, hj⟩ : ∃ j, j = xs.length := ⟨_, rfl⟩
        have HJ := Lib.hid hj
        have HOW := Lib.hid (show World.ownsRow _ _ _ _ _ j _ by have := HL2.out.own; rwa [← HJ.out] at this)
        have HJ4 : Hid (j ≤ 4097) := by show _ ≤ _; rw [hj]; exact HXL.out
        have HSZ2 := Lib.hid HL2.out.sz
        have HNE := Lib.hid (one_row w1 (.int .i64 k1) (.int .u64 (n1 : Int)) (.slice A1 nd1 cd1) (.slice AL1 nl1 cl1) (t := 42))
        clear hj HL1
        refine wpAnyH_ready (rs := [7]) (by kernel_rfl) (by simp) ?_
        refine AllReadyH.cons rfl (fun K hK => ?_) AllReadyH.nil
        refine step_append_lies _ (by rfl) (.tmp 44) (.tmp 49) 40 (by rfl) (w.heap.size + 2) 42 i0 _ 4 64 Tryz.underlying40 HI.out HI0.out HI1.out HI2.out rfl (by decide) _ j cells (by rfl) HOW.out ⟨w1.heap.size, 0, none⟩ 1 1 [.int .i64 k1, .int .u64 (n1 : Int), .slice A1 nd1 cd1, .slice AL1 nl1 cl1] (by rfl) rfl HNE.out (by intro u hu; simp at hu; rcases hu with rfl | rfl | rfl | rfl <;> rfl) (by decide) (by have := HJ4.out; unfold maxLen; omega) (by have := HJ4.out; omega) HSZ2.out _ rfl ?_
        intro g2 cap2 w3 ho3 hg3 hat hlt3
        have hfar := HL2.out.far hg3
        have y3 := hfar.1
        have yf := hfar.2.1
        have HB3 := Lib.hid hfar.2.2
        have HPU := Lib.hid (LstSt.pushB HLC.out HO1.out HG.out HV.out HBA.out HJ.out.symm ho3 hg3 hat)
        have HS3 : Hid (RSt w3 g _ n c bs i1 p1 e1) := (HS1.out.below HBA.out HS1.out.lt).below HB3.out (Nat.lt_of_lt_of_le HG.out (Nat.le_add_right _ 2))
        clear hfar ho3 hg3 hat hlt3 HOW HNE HL2 HSZ2 HB3
        refine hK.out _ _ trivial (fun _ => ?_)
        try simp only [Act.put]
        try simp only [List.setIfInBounds_toArray]
        try simp only [List.set_cons_succ]
        try simp only [List.set_cons_zero]
        clear hK K
        refine takeR (i := 8) (v := .pointer (some ⟨w.heap.size + 1, 3, none⟩)) rfl (by kernel_rfl) (by kernel_rfl) (by kernel_rfl) (fun _ _ _ h => h) (by rfl) (by intro W hSw; go_simp) trivial ?_
        try simp only [Act.put]
        try simp only [List.setIfInBounds_toArray]
        try simp only [List.set_cons_succ]
        try simp only [List.set_cons_zero]
        refine wpAnyH_ready (rs := [9]) (by kernel_rfl) (by simp) ?_
        refine AllReadyH.cons rfl (fun K hK => ?_) AllReadyH.nil
        rw [if_pos (by rfl)]
        go_simp
        refine hK.out _ _ trivial (fun _ => ?_)
        try simp only [Act.put]
        try simp only [List.setIfInBounds_toArray]
        try simp only [List.set_cons_succ]
        try simp only [List.set_cons_zero]
        clear hK K
        have HS4 := Lib.hid (HS3.out.setFar (b := w.heap.size + 1) (j := 3) (Nat.lt_succ_of_lt HG.out) (.slice (some ⟨g2, 0, none⟩) (j + 1) cap2))
        clear y3 yf HS3
        refine wpAnyH_done (by kernel_rfl) ?_ _
        obtain ⟨hnx, hlss⟩ := HS0.out.next HY.out HFF.out HM1.out HS4.out HPU.out
        have HNX := Lib.hid hnx
        have HLT := Lib.hid hlss
        clear hnx hlss
        go_wp2_with fail
        go_roundw
        case rel => exact ⟨_, i1, p1, e1, _, _, _, HNX.out⟩
        case measure => exact Nat.lt_of_lt_of_eq HLT.out HMS.out
end
end Go.Proofs.YtbdjkihgcmebgaaGreatDoor
/- The reference's reader of layer 3: items, and Decode. (Made by gen/RgD.py.) -/
namespace Go.Proofs.YtbdjkihgcmebgaaGreatDoor
open Go.RowKit

theorem arr_facts (X : Nat) : (X = 159 ∧ ((X : Int) == 159) = true) ∨ (X ≠ 159 ∧ ((X : Int) == 159) = false ∧ X / 32 = 4 ∧ ((X : Int) / 32 == 4) = true ∧ X % 32 ≤ 27 ∧ (X : Int) % 32 ≤ 27) ∨
    (X ≠ 159 ∧ ((X : Int) == 159) = false ∧ X / 32 = 4 ∧ ((X : Int) / 32 == 4) = true ∧ 27 < X % 32 ∧ 27 < (X : Int) % 32) ∨ (X ≠ 159 ∧ ((X : Int) == 159) = false ∧ X / 32 ≠ 4 ∧ ((X : Int) / 32 == 4) = false) := by
  have e : (X : Int) / 32 = ((X / 32 : Nat) : Int) := by omega
  have e2 : (X : Int) % 32 = ((X % 32 : Nat) : Int) := by omega
  rw [e, e2]
  simp only [beq_iff_eq, beq_eq_false_iff_ne]
  omega
theorem headG_maj {x : UInt8} {r r' : List UInt8} {m k : Nat} (h : headD (x :: r) = .ok (m, k, r')) : (m = 0 ∨ m = 2 ∨ m = 3 ∨ m = 4) ∧ (m = 4 → arrB x = true) := by
  rw [headD] at h
  by_cases h1 : (x.toNat / 32 ≠ 0 ∧ x.toNat / 32 ≠ 2 ∧ x.toNat / 32 ≠ 3 ∧ x.toNat / 32 ≠ 4) ∨ 27 < x.toNat % 32
  · rw [if_pos h1] at h; cases h
  rw [if_neg h1] at h
  have hm : m = x.toNat / 32 := by
    split at h
    · injection h with h; injection h with h _; exact h.symm
    split at h
    · cases h
    split at h
    · cases h
    · injection h with h; injection h with h _; exact h.symm
  refine ⟨by omega, fun h4 => (arrB_eq x).2 (.inr ⟨by omega, by omega⟩)⟩
section
variable {w wr w1 w3 w5 : World} {g n c i p e d D m j : Nat} {A : Option Addr} {bs : List UInt8} {k : Int} {vL : Value} {cells : List Value} {xs : List Itm} {R : Except Int (List Itm × Nat × List UInt8)}
/-- The array's variable is laid behind a call that laid nothing. -/
theorem LstSt.startB (hg : g < w.heap.size) (ho : Only g (w.alloc (.cells #[.int .i64 0, .int .u64 0, .slice none 0 0, .slice none 0 0] 42)) w5) (hz : w5.heap.size = w.heap.size + 1) (k : Int) : LstSt w (w5.alloc (.cells #[.int .i64 k, .int .u64 0, .slice none 0 0, .slice none 0 0] 42)) g k (.slice none 0 0) [] [] := by
  obtain ⟨⟨z0, z1, z2, z3⟩, f0, f1, f2, f3⟩ := zero_only ho hg
  have hb := (Below.refl w5.heap.size w5).alloc (Nat.le_refl _) (.cells #[.int .i64 k, .int .u64 0, .slice none 0 0, .slice none 0 0] 42)
  have c := fun (j : Nat) => hb.cell (p := ⟨w.heap.size, j, none⟩) (by show w.heap.size < _; omega)
  have f := fun (j : Nat) => hb.frozen (p := ⟨w.heap.size, j, none⟩) (by show w.heap.size < _; omega)
  have g0 : ∀ j u, #[Value.int .i64 k, .int .u64 0, .slice none 0 0, .slice none 0 0][j]? = some u → (w5.alloc (.cells #[.int .i64 k, .int .u64 0, .slice none 0 0, .slice none 0 0] 42)).cell? ⟨w.heap.size + 1, j, none⟩ = some u := fun j u hu => by
    rw [World.cell?_alloc_at _ _ _ _ hz.symm]; exact hu
  refine ⟨g0 0 _ rfl, g0 1 _ rfl, g0 2 _ rfl, g0 3 _ rfl, by rw [← hz]; simp, (c 0).trans z0, (c 1).trans z1, (c 2).trans z2, (c 3).trans z3, (f 0).trans f0, (f 1).trans f1, (f 2).trans f2, (f 3).trans f3, World.ownsRow_nil _ _ _ _, trivial, (((Only.refl g w).alloc _).trans ho).alloc _, by have e : (w5.alloc (.cells #[.int .i64 k, .int .u64 0, .slice none 0 0, .slice none 0 0] 42)).heap.size = w5.heap.size + 1 := (by simp); omega⟩
/-- How far an array has come. -/
structure ArrS (w wr : World) (g : Nat) (A : Option Addr) (n c : Nat) (bs : List UInt8) (D m j i p e : Nat) (vL : Value) (cells : List Value) (xs : List Itm) (R : Except Int (List Itm × Nat × List UInt8)) : Prop where
  st : RSt wr g A n c bs i p e
  ls : LstSt w wr g 4 vL cells xs
  hl : xs.length = j
  hj : xs.length ≤ 4097
  go : (e = 0 ∧ p ≤ 4096 ∧ j ≤ p ∧ R = prep xs (many (dec D) (m - j) p (bs.drop i))) ∨ (0 < e ∧ R = .error (e : Int))
theorem ArrS.next (h : ArrS w wr g A n c bs D m j i p 0 vL cells xs R) (hjm : j < m) {x : Itm} {i1 p1 e1 : Nat} (hm : MeanG bs (dec D p (bs.drop i)) x i1 p1 e1) {w4 : World} {vL' : Value} {cells' : List Value}
    (hst : RSt w4 g A n c bs i1 p1 e1) (hls : LstSt w w4 g 4 vL' cells' (xs ++ [x])) : ArrS w w4 g A n c bs D m (j + 1) i1 p1 e1 vL' cells' (xs ++ [x]) R := by
  rcases h.go with ⟨-, hp, hjp, heq⟩ | ⟨h0, -⟩
  · have hlj := h.hl
    rcases hd : dec D p (bs.drop i) with z | ⟨x', p', l'⟩
    · rw [hd] at hm
      obtain ⟨rfl, he⟩ := hm
      refine ⟨hst, hls, by rw [List.length_append, List.length_singleton, hlj], by rw [List.length_append, List.length_singleton]; omega, .inr ⟨he, ?_⟩⟩
      rw [heq, many_succ _ _ _ (by omega), hd]
      rfl
    · rw [hd] at hm
      obtain ⟨rfl, rfl, rfl, hl1⟩ := hm
      obtain ⟨-, -, -, -, e5, e6⟩ := dec_ok D p _ x p1 l' hp hd
      have hpp := par_pos x
      refine ⟨hst, hls, by rw [List.length_append, List.length_singleton, hlj], by rw [List.length_append, List.length_singleton]; omega, .inl ⟨rfl, e6, by omega, ?_⟩⟩
      rw [heq, many_succ _ _ _ (by omega), hd, hl1, Nat.sub_sub]
      show prep xs (match many (dec D) (m - (j + 1)) p1 l' with | .error e => .error e | .ok (ys, p2, l2) => .ok (x :: ys, p2, l2)) = _
      rcases many (dec D) (m - (j + 1)) p1 l' with z | ⟨ys, q, l''⟩
      · rfl
      · simp [prep]
  · exact absurd h0 (Nat.lt_irrefl 0)
theorem ArrS.done (h : ArrS w wr g A n c bs D m j i p 0 vL cells xs R) (hj : ¬ j < m) : R = .ok (xs, p, bs.drop i) := by
  rcases h.go with ⟨-, hp, hjp, heq⟩ | ⟨h0, -⟩
  · rw [heq, show m - j = 0 by omega, many, prep, List.append_nil]
  · exact absurd h0 (Nat.lt_irrefl 0)

set_option maxRecDepth 100000 in
set_option maxHeartbeats 16000000 in
theorem ritem3_step {sub : Nat → List UInt8 → Except Int (Itm × Nat × List UInt8)} {deep : Bool} (hdec : dec D = itemD sub deep) (hdeep : deep = decide (d = 8)) (hd8 : d ≤ 8) (hsub : deep = false → ∃ D', d + 1 + D' = 8 ∧ sub = dec D' ∧ ItemG D') (hp : p ≤ 4096) (h : RSt w g A n c bs i p 0) :
    Calls Tryz.prog 29 #[.pointer (some ⟨g, 0, none⟩), .int .i64 (d : Int)] w (GivesG g A n c bs (dec D p (bs.drop i)) w) := by
  rw [hdec]
  obtain ⟨R, hR⟩ : ∃ R, R = itemD sub deep p (bs.drop i) := ⟨_, rfl⟩
  rw [← hR]
  have HR := Lib.hid hR
  have HSUB := Lib.hid hsub
  have HDE := Lib.hid hdeep
  have HG := Lib.hid h.lt
  have HS := Lib.hid (h.alloc (.cells #[.int .i64 0, .int .u64 0, .slice none 0 0, .slice none 0 0] 42))
  have HO : Hid (Only g (w.alloc (.cells #[.int .i64 0, .int .u64 0, .slice none 0 0, .slice none 0 0] 42)) (w.alloc (.cells #[.int .i64 0, .int .u64 0, .slice none 0 0, .slice none 0 0] 42))) := Only.refl _ _
  have HZS : Hid ((w.alloc (.cells #[.int .i64 0, .int .u64 0, .slice none 0 0, .slice none 0 0] 42)).heap.size = w.heap.size + 1) := by show _ = _; simp
  have HZ := Lib.hid (fun (W : World) (ho : Only g (w.alloc (.cells #[.int .i64 0, .int .u64 0, .slice none 0 0, .slice none 0 0] 42)) W) => zero_only ho HG.out)
  have HB := Lib.hid (fun (W : World) (ho : Only g (w.alloc (.cells #[.int .i64 0, .int .u64 0, .slice none 0 0, .slice none 0 0] 42)) W) => ((Only.refl g w).alloc (.cells #[.int .i64 0, .int .u64 0, .slice none 0 0, .slice none 0 0] 42)).trans ho)
  have hin := h.hi
  have hn6 := h.hn
  have hc6 := h.hc
  clear hR hsub hdeep h
  have c0 := HS.out.c0
  have c1 := HS.out.c1
  go_enter Tryz.func29, Tryz.ntmps29
  by_cases hlt : i < n
  case neg =>
    have tn : (n : Int) ≤ (i : Int) := by omega
    have he : bs.drop i = [] := List.drop_eq_nil_of_le (by rw [HS.out.rd.1]; omega)
    go_wp2_with fail
    go_quiet (fail)
    have HS1 := Lib.hid (HS.out.drewN nq)
    have HO1 := Lib.hid (HO.out.trans (Only.of_below (below_drewN _ _ nq)))
    have HZS1 : Hid (((w.alloc (.cells #[.int .i64 0, .int .u64 0, .slice none 0 0, .slice none 0 0] 42)).drewN nq).heap.size = w.heap.size + 1) := HZS.out
    clear c0 c1
    have hR2 := HR.out
    rw [he, itemD] at hR2
    subst hR2
    have C3 := Lib.hid (rfail_any HS1.out 30)
    go_wp2_with fail
    refine C3.out.mono ?_
    rintro e w4 ⟨rfl, hs4, ho4⟩
    have ho5 := HO1.out.trans ho4
    obtain ⟨⟨z0, z1, z2, z3⟩, f0, f1, f2, f3⟩ := HZ.out w4 ho5
    have HO5 := Lib.hid (HB.out _ ho5)
    have HS4 := Lib.hid hs4
    clear ho5 hs4 ho4
    unfold noItem
    go_wp2_with fail
    refine bodyPost_ret (v := noItem) (by simp [results, Tryz.results29, go_sem, z0, z1, z2, z3, noItem]) rfl ?_
    exact ⟨_, _, i, p, 30, rfl, RdI.mk_uint (n := 0) (by decide), HS4.out.set4 HG.out, set4_only HO5.out (Nat.le_refl _), rfl, by decide⟩
  have tn : (i : Int) < (n : Int) := by omega
  have i0' : (0 : Int) ≤ (i : Int) := by omega
  obtain ⟨b, oo, x, rfl, hcx, hy, hb⟩ := HS.out.byte hlt
  have HY := Lib.hid hy
  have hx256 := x.toNat_lt
  clear hy hb
  go_wp2_with fail
  go_quiet (fail)
  have HS1 := Lib.hid (HS.out.drewN nq)
  have HO1 := Lib.hid (HO.out.trans (Only.of_below (below_drewN _ _ nq)))
  have HZS1 : Hid (((w.alloc (.cells #[.int .i64 0, .int .u64 0, .slice none 0 0, .slice none 0 0] 42)).drewN nq).heap.size = w.heap.size + 1) := HZS.out
  have hcx1 : ((w.alloc (.cells #[.int .i64 0, .int .u64 0, .slice none 0 0, .slice none 0 0] 42)).drewN nq).cell? ⟨b, oo + i, none⟩ = _ := hcx
  clear c0 c1 hcx HS HO HZS
  generalize (w.alloc (.cells #[.int .i64 0, .int .u64 0, .slice none 0 0, .slice none 0 0] 42)).drewN nq = W1 at *
  have c0 := HS1.out.c0
  have c1 := HS1.out.c1
  have c2 := HS1.out.c2
  by_cases hp4 : p = 4096
  · subst hp4
    have tp : ((4096 : Int) == 4096) = true := rfl
    have hR2 := HR.out
    rw [HY.out, itemD_32 (.inl rfl)] at hR2
    subst hR2
    have C3 := Lib.hid (rfail_any HS1.out 32)
    go_wp2_with fail
    refine C3.out.mono ?_
    rintro e w4 ⟨rfl, hs4, ho4⟩
    have ho5 := HO1.out.trans ho4
    obtain ⟨⟨z0, z1, z2, z3⟩, f0, f1, f2, f3⟩ := HZ.out w4 ho5
    have HO5 := Lib.hid (HB.out _ ho5)
    have HS4 := Lib.hid hs4
    clear ho5 hs4 ho4
    unfold noItem
    go_wp2_with fail
    refine bodyPost_ret (v := noItem) (by simp [results, Tryz.results29, go_sem, z0, z1, z2, z3, noItem]) rfl ?_
    exact ⟨_, _, i, 4096, 32, rfl, RdI.mk_uint (n := 0) (by decide), HS4.out.set4 HG.out, set4_only HO5.out (Nat.le_refl _), rfl, by decide⟩
  have tp : ((p : Int) == 4096) = false := by rw [beq_eq_false_iff_ne]; omega
  go_wp2_with fail
  go_quiet (fail)
  have HS2 := Lib.hid (HS1.out.drewN nq)
  have HO2 := Lib.hid (HO1.out.trans (Only.of_below (below_drewN _ _ nq)))
  have HZS2 : Hid ((W1.drewN nq).heap.size = w.heap.size + 1) := HZS1.out
  clear c0 c1 c2 hcx1 HS1 HO1 HZS1 tp
  generalize W1.drewN nq = W2 at *
  have c1 := HS2.out.c1
  have c2 := HS2.out.c2
  have f1 := HS2.out.f1
  have f2 := HS2.out.f2
  have HAB := Lib.hid (arrB_eq x)
  by_cases harr : arrB x = true ∧ deep = true
  · have td : ((d : Int) == 8) = true := by
      have := harr.2
      rw [HDE.out] at this
      have := of_decide_eq_true this
      rw [this]; rfl
    have HH := Lib.hid (show ¬ (¬ x.toNat = 159 ∧ (¬ x.toNat / 32 = 4 ∨ 27 < x.toNat % 32)) by
      rcases (arrB_eq x).1 harr.1 with h | h
      · have : x.toNat = 159 := by rw [h]; rfl
        omega
      · omega)
    have hR2 := HR.out
    rw [HY.out, itemD_32 (.inr harr)] at hR2
    subst hR2
    clear harr HR
    have C3 := Lib.hid (rfail_any HS2.out 32)
    rcases arr_facts x.toNat with ⟨h1, q1⟩ | ⟨h1, q1, h2, q2, h3, q3⟩ | ⟨h1, q1, h2, q2, h3, q3⟩ | ⟨h1, q1, h2, q2⟩
    case inr.inr.inl => exact absurd ⟨h1, .inr h3⟩ HH.out
    case inr.inr.inr => exact absurd ⟨h1, .inl h2⟩ HH.out
    all_goals
      clear h1
      generalize x.toNat = X at *
      go_wp2_with fail
      refine C3.out.mono ?_
      rintro e w4 ⟨rfl, hs4, ho4⟩
      have ho5 := HO2.out.trans ho4
      obtain ⟨⟨z0, z1, z2, z3⟩, f0, f1, f2, f3⟩ := HZ.out w4 ho5
      have HO5 := Lib.hid (HB.out _ ho5)
      have HS4 := Lib.hid hs4
      clear ho5 hs4 ho4
      unfold noItem
      go_wp2_with fail
      refine bodyPost_ret (v := noItem) (by simp [results, Tryz.results29, go_sem, z0, z1, z2, z3, noItem]) rfl ?_
      exact ⟨_, _, i, p, 32, rfl, RdI.mk_uint (n := 0) (by decide), HS4.out.set4 HG.out, set4_only HO5.out (Nat.le_refl _), rfl, by decide⟩
  have HC : Hid (¬ (p = 4096 ∨ (arrB x = true ∧ deep = true))) := fun hh => by
    rcases hh with hh | hh
    · exact hp4 hh
    · exact harr hh
  have HS3 := Lib.hid (HS2.out.set2 (z := (p : Int) + 1) (p + 1) (by omega))
  have HO3 := Lib.hid (HO2.out.setCell (p := ⟨g, 2, none⟩) rfl (.int .i64 ((p : Int) + 1)))
  have HZS3 : Hid ((W2.setCell ⟨g, 2, none⟩ (.int .i64 ((p : Int) + 1))).heap.size = w.heap.size + 1) := by show _ = _; simp [World.setCell]; exact HZS2.out
  have c1' := HS3.out.c1
  have f1' := HS3.out.f1
  have hp4' : p < 4096 := by omega
  by_cases h9 : x = 0x9f
  · subst h9
    have hdf : deep = false := by
      rcases hd : deep with _ | _
      · rfl
      · exact absurd ⟨(arrB_eq 0x9f).2 (.inl rfl), hd⟩ harr
    obtain ⟨D', hD', rfl, IH⟩ := HSUB.out hdf
    have td : ((d : Int) == 8) = false := by rw [beq_eq_false_iff_ne]; omega
    have hR2 := HR.out
    rw [HY.out, itemD_end HC.out rfl] at hR2
    have HR2 := Lib.hid hR2
    have HS4 := Lib.hid (HS3.out.set1 (z := (i : Int) + 1) (i + 1) (by omega) (by omega))
    have HO4 := Lib.hid (HO3.out.setCell (p := ⟨g, 1, none⟩) rfl (.int .i64 ((i : Int) + 1)))
    have CE := Lib.hid (rendless_any (Lib.hid IH) hD' (by omega) HS4.out)
    have hX : (0x9f : UInt8).toNat = 159 := rfl
    clear hR2 HR harr IH HSUB HAB HDE hdf
    go_wp2_with fail
    refine CE.out.mono ?_
    rintro e w5 ⟨v, y, i1, p1, e1, rfl, hv, hs5, ho5, hm⟩
    obtain ⟨k1, n1, A1, nd1, cd1, AL1, nl1, cl1, rfl⟩ := hv.form
    have ho6 := HO4.out.trans ho5
    obtain ⟨⟨z0, z1, z2, z3⟩, f0, f1, f2, f3⟩ := HZ.out w5 ho6
    have HO6 := Lib.hid (HB.out _ ho6)
    have HV := Lib.hid hv
    have HS5 := Lib.hid hs5
    have HM := Lib.hid hm
    have HLO : Hid (w.heap.size + 1 ≤ ((W2.setCell ⟨g, 2, none⟩ (.int .i64 ((p : Int) + 1))).setCell ⟨g, 1, none⟩ (.int .i64 ((i : Int) + 1))).heap.size) := by show _ ≤ _; simp [World.setCell]; exact Nat.le_of_eq HZS2.out.symm
    clear hv hs5 ho5 hm ho6
    go_wp2_with fail
    refine bodyPost_ret (v := .agg #[.int .i64 k1, .int .u64 (n1 : Int), .slice A1 nd1 cd1, .slice AL1 nl1 cl1]) (by simp [results, Tryz.results29, go_sem, z0, z1, z2, z3]) rfl ?_
    rw [HR2.out]
    exact ⟨_, y, i1, p1, e1, rfl, HV.out.fin (Nat.le_refl _) HLO.out (Nat.le_of_succ_le HLO.out), HS5.out.set4 HG.out, set4_only HO6.out (Nat.le_refl _), HM.out⟩
  have hX9 : x.toNat ≠ 159 := fun e => h9 (UInt8.toNat_inj.1 e)
  have hR2 := HR.out
  rw [HY.out, itemD_head HC.out h9, ← HY.out] at hR2
  have HR2 := Lib.hid hR2
  have CHD := Lib.hid (rhead3_any HS3.out hlt)
  have HNA : Hid (arrB x = true → deep = false) := fun ha => by
    rcases hd : deep with _ | _
    · rfl
    · exact absurd ⟨ha, hd⟩ harr
  have HTD : Hid (arrB x = true → ((d : Int) == 8) = false) := fun ha => by
    have := HNA.out ha
    rw [HDE.out] at this
    have := of_decide_eq_false this
    rw [beq_eq_false_iff_ne]; omega
  clear hR2 HR harr HDE h9 c1' f1' f1 c1
  rcases arr_facts x.toNat with ⟨h1, q1⟩ | ⟨h1, q1, h2, q2, h3, q3⟩ | ⟨h1, q1, h2, q2, h3, q3⟩ | ⟨h1, q1, h2, q2⟩
  case inl => exact absurd h1 hX9
  case' inr.inl => have td := HTD.out (HAB.out.2 (.inr ⟨h2, h3⟩))
  case' inr.inr.inl =>
    have HNO : Hid (¬ arrB x = true) := fun ha => by
      rcases HAB.out.1 ha with h | h
      · exact h1 (by rw [h]; rfl)
      · omega
  case' inr.inr.inr =>
    have HNO : Hid (¬ arrB x = true) := fun ha => by
      rcases HAB.out.1 ha with h | h
      · exact h1 (by rw [h]; rfl)
      · omega
  all_goals
    clear h1 hX9
    generalize x.toNat = X at *
    go_wp2_with fail
    refine CHD.out.mono ?_
    rcases hh : headD (bs.drop i) with z | ⟨m, k, r'⟩
    · rintro e w5 ⟨i1, zn, rfl, rfl, hz0, hs5, ho5⟩
      have ho6 := HO3.out.trans ho5
      obtain ⟨⟨z0, z1, z2, z3⟩, f0, f1, f2, f3⟩ := HZ.out w5 ho6
      have HO6 := Lib.hid (HB.out _ ho6)
      have HS5 := Lib.hid hs5
      have HR3 := HR2.out
      rw [hh] at HR3
      have HR4 := Lib.hid HR3
      have HZ0 := Lib.hid hz0
      clear hs5 ho5 ho6 HR3 hh HR2 hz0
      go_wp2_with fail
      refine bodyPost_ret (v := noItem) (by simp [results, Tryz.results29, go_sem, z0, z1, z2, z3, noItem]) rfl ?_
      rw [HR4.out]
      exact ⟨_, _, i1, p + 1, zn, rfl, RdI.mk_uint (n := 0) (by decide), HS5.out.set4 HG.out, set4_only HO6.out (Nat.le_refl _), rfl, HZ0.out⟩
    · rintro e w5 ⟨i1, rfl, hk64, hs5, hdr, ho5, hsz5⟩
      have ho6 := HO3.out.trans ho5
      have HO6 := Lib.hid ho6
      have HS5 := Lib.hid hs5
      have HZ5 : Hid (w5.heap.size = w.heap.size + 1) := hsz5.trans HZS3.out
      have HR3 := HR2.out
      rw [hh] at HR3
      obtain ⟨hmm, hm4⟩ := headG_maj (HY.out ▸ hh)
      have HR4 : Hid (R = kindR sub m k (p + 1) (bs.drop i1)) := by rw [hdr]; exact HR3
      clear hs5 ho5 hsz5 HR3 hh HR2 hdr c2 f2 CHD HS2 HS3 HO2 HO3 HZS2 HZS3
      have hm0 : m = 0 ∨ m = 4 ∨ (m = 2 ∨ m = 3) := by omega
      clear hmm
      rcases hm0 with rfl | rfl | hm23
      · skip
        obtain ⟨⟨z0, z1, z2, z3⟩, f0, f1, f2, f3⟩ := HZ.out w5 ho6
        have CU := Lib.hid (ruint_any (k : Int) w5 (by omega) (by omega))
        clear ho6
        go_wp2_with fail
        refine CU.out.mono ?_
        rintro e w6 ⟨v, rfl, hv, hb6⟩
        obtain ⟨k1, n1, A1, nd1, cd1, AL1, nl1, cl1, rfl⟩ := hv.form
        have ho7 := HO6.out.trans (Only.of_below hb6)
        obtain ⟨⟨z0, z1, z2, z3⟩, f0, f1, f2, f3⟩ := HZ.out w6 ho7
        have HO7 := Lib.hid (HB.out _ ho7)
        have HV := Lib.hid hv
        have HS6 := Lib.hid (HS5.out.below hb6 HS5.out.lt)
        clear hv hb6 ho7
        go_wp2_with fail
        refine bodyPost_ret (v := .agg #[.int .i64 k1, .int .u64 (n1 : Int), .slice A1 nd1 cd1, .slice AL1 nl1 cl1]) (by simp [results, Tryz.results29, go_sem, z0, z1, z2, z3]) rfl ?_
        rw [HR4.out, kindR, if_pos rfl]
        exact ⟨_, _, i1, p + 1, 0, rfl, HV.out.bare, HS6.out.set4 HG.out, set4_only HO7.out (Nat.le_refl _), rfl, by rw [Int.toNat_natCast], rfl, rfl⟩
      · try exact absurd (hm4 rfl) HNO.out
        all_goals
        have hdf := HNA.out (hm4 rfl)
        obtain ⟨D', hD', rfl, IH0⟩ := HSUB.out hdf
        have IH := Lib.hid IH0
        obtain ⟨R2, hR2⟩ : ∃ R2, R2 = many (dec D') k (p + 1) (bs.drop i1) := ⟨_, rfl⟩
        have HR5 : Hid (R = lst 4 R2) := by show _ = _; rw [hR2, HR4.out, kindR, if_neg (by decide), if_pos rfl]
        have HST := Lib.hid (show ArrS w (w5.alloc (.cells #[.int .i64 4, .int .u64 0, .slice none 0 0, .slice none 0 0] 42)) g _ n c bs D' k 0 i1 (p + 1) 0 (.slice none 0 0) [] [] R2 from ⟨HS5.out.alloc _, LstSt.startB HG.out ho6 HZ5.out 4, rfl, by simp, .inl ⟨rfl, by omega, Nat.zero_le _, by rw [Nat.sub_zero, prep_nil]; exact hR2⟩⟩)
        have hwk : IntKind.i64.wrap ((d : Int) + 1) = ((d + 1 : Nat) : Int) := by rw [IntKind.wrap_i64]; omega
        have hd7 : d ≤ 7 := by omega
        obtain ⟨i0, hi0, hz0, hz1, hz2⟩ := info_parts info_item
        have HI := Lib.hid hi0
        have HI0 := Lib.hid hz0
        have HI1 := Lib.hid hz1
        have HI2 := Lib.hid hz2
        have hZ5 := HZ5.out
        clear ho6 hdf IH0 hR2 hi0 hz0 hz1 hz2 HR4 HSUB HNA HTD HC HAB HY HO6 HS5 HZ HB hm4 hlt tn i0' hp4 hp4'
        go_wp2_with fail
        go_loopw [10] (fun cnt wr => ∃ (j i p e : Nat) (vL : Value) (cells : List Value) (xs : List Itm), cnt = .int .u64 (j : Int) ∧ j ≤ k ∧ Hid (ArrS w wr g _ n c bs D' k j i p e vL cells xs R2)) (fun cnt _ => k - (intOf cnt).toNat)
        case atStart => exact ⟨0, i1, p + 1, 0, _, _, _, rfl, Nat.zero_le _, HST.out⟩
        case round =>
          obtain ⟨j, i, p, e, vL, cells, xs, rfl, hjk, hst⟩ := hrel
          clear HST
          by_cases hgo : j < k ∧ e = 0
          case neg =>
            have q3 := hst.out.st.c3
            have HQ : Hid ((e = 0 ∧ R2 = .ok (xs, p, bs.drop i)) ∨ (0 < e ∧ R2 = .error (e : Int))) := by
              by_cases he : e = 0
              · subst he
                exact .inl ⟨rfl, hst.out.done (by omega)⟩
              · rcases hst.out.go with ⟨h0, -⟩ | h0
                · exact absurd h0 he
                · exact .inr h0
            obtain ⟨AL, nL, cL, rfl⟩ := hst.out.ls.slc
            have b0 := hst.out.ls.b0
            have b1 := hst.out.ls.b1
            have b2 := hst.out.ls.b2
            have b3 := hst.out.ls.b3
            have bf := hst.out.ls.bf
            have z0 := hst.out.ls.z0
            have z1 := hst.out.ls.z1
            have z2 := hst.out.ls.z2
            have z3 := hst.out.ls.z3
            have f0 := hst.out.ls.f0
            have f1 := hst.out.ls.f1
            have f2 := hst.out.ls.f2
            have f3 := hst.out.ls.f3
            by_cases hj2 : j < k
            case pos =>
              have he : ¬ e = 0 := fun h => hgo ⟨hj2, h⟩
              have te : ((e : Int) == 0) = false := by rw [beq_eq_false_iff_ne]; omega
              have tj : decide ((j : Int) < (k : Int)) = true := decide_eq_true (by omega)
              clear he hgo
              go_wp2_with fail
              refine bodyPost_ret (v := .agg #[.int .i64 4, .int .u64 0, .slice none 0 0, .slice AL nL cL]) (by simp [results, Tryz.results29, go_sem, z0, z1, z2, z3]) rfl ?_
              refine ⟨_, _, i, p, e, rfl, (hst.out.ls.read (by decide) (by have := hst.out.hj; omega)).fin (Nat.le_refl _) (by omega) (by omega), hst.out.st.set4 HG.out, set4_only hst.out.ls.only (Nat.le_refl _), ?_⟩
              rw [HR5.out]
              rcases HQ.out with ⟨h0, h1⟩ | ⟨h0, h1⟩
              · rw [h1]; exact ⟨h0, rfl, rfl, rfl⟩
              · rw [h1]; exact ⟨rfl, h0⟩
            case neg =>
              have tj : decide ((j : Int) < (k : Int)) = false := decide_eq_false (by omega)
              clear hgo
              go_wp2_with fail
              refine bodyPost_ret (v := .agg #[.int .i64 4, .int .u64 0, .slice none 0 0, .slice AL nL cL]) (by simp [results, Tryz.results29, go_sem, z0, z1, z2, z3]) rfl ?_
              refine ⟨_, _, i, p, e, rfl, (hst.out.ls.read (by decide) (by have := hst.out.hj; omega)).fin (Nat.le_refl _) (by omega) (by omega), hst.out.st.set4 HG.out, set4_only hst.out.ls.only (Nat.le_refl _), ?_⟩
              rw [HR5.out]
              rcases HQ.out with ⟨h0, h1⟩ | ⟨h0, h1⟩
              · rw [h1]; exact ⟨h0, rfl, rfl, rfl⟩
              · rw [h1]; exact ⟨rfl, h0⟩
          obtain ⟨hj2, rfl⟩ := hgo
          have q3 : wr.cell? ⟨g, 3, none⟩ = some (.int .i64 0) := hst.out.st.c3
          have tj : decide ((j : Int) < (k : Int)) = true := decide_eq_true (by omega)
          have HLS := Lib.hid hst.out.ls
          have HST := Lib.hid hst.out.st
          have HP : Hid (p ≤ 4096) := by
            rcases hst.out.go with ⟨-, h, -⟩ | ⟨h0, -⟩
            · exact h
            · exact absurd h0 (Nat.lt_irrefl 0)
          have HXL := Lib.hid hst.out.hj
          have HJ2 := Lib.hid hj2
          go_wp2_with fail
          try simp only [Act.put]
          try simp only [List.setIfInBounds_toArray]
          try simp only [List.set_cons_succ]
          try simp only [List.set_cons_zero]
          refine wp_region_held_drew (S := fun _ => True) (by kernel_rfl) trivial (fun _ => ?_)
          refine takeR (i := 0) (v := .pointer (some ⟨w.heap.size + 1, 3, none⟩)) rfl (by kernel_rfl) (by kernel_rfl) (by kernel_rfl) (fun _ _ _ h => h) (by rfl) (by intro W hSw; go_simp) trivial ?_
          try simp only [Act.put]
          try simp only [List.setIfInBounds_toArray]
          try simp only [List.set_cons_succ]
          try simp only [List.set_cons_zero]
          refine takeR (i := 2) (v := .pointer (some ⟨g, 0, none⟩)) rfl (by kernel_rfl) (by kernel_rfl) (by kernel_rfl) (fun _ _ _ h => h) (by rfl) (by intro W hSw; go_simp) trivial ?_
          try simp only [Act.put]
          try simp only [List.setIfInBounds_toArray]
          try simp only [List.set_cons_succ]
          try simp only [List.set_cons_zero]
          refine takeR (i := 3) (v := .int .i64 (d : Int)) rfl (by kernel_rfl) (by kernel_rfl) (by kernel_rfl) (fun _ _ _ h => h) (by rfl) (by intro W hSw; go_simp) trivial ?_
          try simp only [Act.put]
          try simp only [List.setIfInBounds_toArray]
          try simp only [List.set_cons_succ]
          try simp only [List.set_cons_zero]
          refine takeR (i := 4) (v := .int .i64 ((d + 1 : Nat) : Int)) rfl (by kernel_rfl) (by kernel_rfl) (by kernel_rfl) (fun _ _ _ h => h) (by rfl) (by intro W hSw; go_simp) trivial ?_
          try simp only [Act.put]
          try simp only [List.setIfInBounds_toArray]
          try simp only [List.set_cons_succ]
          try simp only [List.set_cons_zero]
          have BT : Hid (Below wr.heap.size wr wr.drew) := Below.drew_
          have HLC := Lib.hid (HLS.out.on (Only.of_below BT.out) HG.out)
          have CI := Lib.hid (IH.out wr.drew g _ n c bs i p (d + 1) (by omega) HP.out (HST.out.below BT.out HST.out.lt))
          obtain ⟨wc, hwc⟩ : ∃ wc, wc = wr.drew := ⟨_, rfl⟩
          rw [← hwc] at BT HLC CI
          rw [← hwc]
          clear hwc
          refine wpAnyH_ready (rs := [1, 5]) (by kernel_rfl) (by simp) ?_
          refine AllReadyH.cons rfl (fun K hK => ?A) (AllReadyH.cons rfl (fun K hK => ?B) AllReadyH.nil)
          case' A =>
            rw [if_pos (by rfl)]
            have y3 := HLC.out.b3
            go_simp
            refine hK.out _ _ trivial (fun _ => ?_)
            try simp only [Act.put]
            try simp only [List.setIfInBounds_toArray]
            try simp only [List.set_cons_succ]
            try simp only [List.set_cons_zero]
            clear hK K
            clear y3
            refine wpAnyH_ready (rs := [5]) (by kernel_rfl) (by simp) ?_
            refine AllReadyH.cons rfl (fun K hK => ?_) AllReadyH.nil
            rw [if_pos (by rfl)]
            go_simp
            refine CI.out.mono ?_
            rintro e w1 ⟨v, y, i1, p1, e1, rfl, hv, hs1, ho1, hm1⟩
            obtain ⟨k1, n1, A1, nd1, cd1, AL1, nl1, cl1, rfl⟩ := hv.form
            have HV := Lib.hid hv
            have HS1 := Lib.hid hs1
            have HO1 := Lib.hid ho1
            have HM1 := Lib.hid hm1
            have HL1 := Lib.hid (HLC.out.on ho1 HG.out)
            clear hv hs1 ho1 hm1 CI
            go_simp
            refine hK.out _ _ trivial (fun _ => ?_)
            try simp only [Act.put]
            try simp only [List.setIfInBounds_toArray]
            try simp only [List.set_cons_succ]
            try simp only [List.set_cons_zero]
            clear hK K
            refine wpAnyH_ready (rs := [6]) (by kernel_rfl) (by simp) ?_
            refine AllReadyH.cons rfl (fun K hK => ?_) AllReadyH.nil
            rw [if_pos (by rfl)]
            go_simp
            refine hK.out _ _ trivial (fun _ => ?_)
            try simp only [Act.put]
            try simp only [List.setIfInBounds_toArray]
            try simp only [List.set_cons_succ]
            try simp only [List.set_cons_zero]
            clear hK K
          case' B =>
            rw [if_pos (by rfl)]
            go_simp
            refine CI.out.mono ?_
            rintro e w1 ⟨v, y, i1, p1, e1, rfl, hv, hs1, ho1, hm1⟩
            obtain ⟨k1, n1, A1, nd1, cd1, AL1, nl1, cl1, rfl⟩ := hv.form
            have HV := Lib.hid hv
            have HS1 := Lib.hid hs1
            have HO1 := Lib.hid ho1
            have HM1 := Lib.hid hm1
            have HL1 := Lib.hid (HLC.out.on ho1 HG.out)
            clear hv hs1 ho1 hm1 CI
            go_simp
            refine hK.out _ _ trivial (fun _ => ?_)
            try simp only [Act.put]
            try simp only [List.setIfInBounds_toArray]
            try simp only [List.set_cons_succ]
            try simp only [List.set_cons_zero]
            clear hK K
            refine wpAnyH_ready (rs := [1, 6]) (by kernel_rfl) (by simp) ?_
            refine AllReadyH.cons rfl (fun K hK => ?C) (AllReadyH.cons rfl (fun K hK => ?D) AllReadyH.nil)
          case' C =>
            rw [if_pos (by rfl)]
            have y3 := HL1.out.b3
            go_simp
            refine hK.out _ _ trivial (fun _ => ?_)
            try simp only [Act.put]
            try simp only [List.setIfInBounds_toArray]
            try simp only [List.set_cons_succ]
            try simp only [List.set_cons_zero]
            clear hK K
            clear y3
            refine wpAnyH_ready (rs := [6]) (by kernel_rfl) (by simp) ?_
            refine AllReadyH.cons rfl (fun K hK => ?_) AllReadyH.nil
            rw [if_pos (by rfl)]
            go_simp
            refine hK.out _ _ trivial (fun _ => ?_)
            try simp only [Act.put]
            try simp only [List.setIfInBounds_toArray]
            try simp only [List.set_cons_succ]
            try simp only [List.set_cons_zero]
            clear hK K
          case' D =>
            rw [if_pos (by rfl)]
            go_simp
            refine hK.out _ _ trivial (fun _ => ?_)
            try simp only [Act.put]
            try simp only [List.setIfInBounds_toArray]
            try simp only [List.set_cons_succ]
            try simp only [List.set_cons_zero]
            clear hK K
            refine wpAnyH_ready (rs := [1]) (by kernel_rfl) (by simp) ?_
            refine AllReadyH.cons rfl (fun K hK => ?_) AllReadyH.nil
            rw [if_pos (by rfl)]
            have y3 := (HL1.out.on (Only.of_below ((Below.refl _ _).alloc (Nat.le_refl _) (.cells #[.int .i64 k1, .int .u64 (n1 : Int), .slice A1 nd1 cd1, .slice AL1 nl1 cl1] 42))) HG.out).b3
            go_simp
            refine hK.out _ _ trivial (fun _ => ?_)
            try simp only [Act.put]
            try simp only [List.setIfInBounds_toArray]
            try simp only [List.set_cons_succ]
            try simp only [List.set_cons_zero]
            clear hK K
            clear y3
          all_goals
            have HBA : Hid (Below w1.heap.size w1 (w1.alloc (.cells #[.int .i64 k1, .int .u64 (n1 : Int), .slice A1 nd1 cd1, .slice AL1 nl1 cl1] 42))) := (Below.refl _ _).alloc (Nat.le_refl _) _
            have HL2 := Lib.hid (HL1.out.on (Only.of_below HBA.out) HG.out)
            obtain ⟨jx, hj⟩ : ∃ jx, jx = xs.length := ⟨_, rfl⟩
            have HJ := Lib.hid hj
            have HOW := Lib.hid (show World.ownsRow _ _ _ _ _ jx _ by have := HL2.out.own; rwa [← HJ.out] at this)
            have HJ4 : Hid (jx ≤ 4097) := by show _ ≤ _; rw [hj]; exact HXL.out
            have HSZ2 := Lib.hid HL2.out.sz
            have HNE := Lib.hid (one_row w1 (.int .i64 k1) (.int .u64 (n1 : Int)) (.slice A1 nd1 cd1) (.slice AL1 nl1 cl1) (t := 42))
            clear hj HL1
            refine wpAnyH_ready (rs := [7]) (by kernel_rfl) (by simp) ?_
            refine AllReadyH.cons rfl (fun K hK => ?_) AllReadyH.nil
            refine step_append_lies _ (by rfl) (.tmp 106) (.tmp 111) 40 (by rfl) (w.heap.size + 2) 42 i0 _ 4 64 Tryz.underlying40 HI.out HI0.out HI1.out HI2.out rfl (by decide) _ jx cells (by rfl) HOW.out ⟨w1.heap.size, 0, none⟩ 1 1 [.int .i64 k1, .int .u64 (n1 : Int), .slice A1 nd1 cd1, .slice AL1 nl1 cl1] (by rfl) rfl HNE.out (by intro u hu; simp at hu; rcases hu with rfl | rfl | rfl | rfl <;> rfl) (by decide) (by have := HJ4.out; unfold maxLen; omega) (by have := HJ4.out; omega) HSZ2.out _ rfl ?_
            intro g2 cap2 w3 ho3 hg3 hat hlt3
            have hfar := HL2.out.far hg3
            have y3 := hfar.1
            have yf := hfar.2.1
            have HB3 := Lib.hid hfar.2.2
            have HPU := Lib.hid (LstSt.pushB HLC.out HO1.out HG.out HV.out HBA.out HJ.out.symm ho3 hg3 hat)
            have HS3 : Hid (RSt w3 g _ n c bs i1 p1 e1) := (HS1.out.below HBA.out HS1.out.lt).below HB3.out (Nat.lt_of_lt_of_le HG.out (Nat.le_add_right _ 2))
            clear hfar ho3 hg3 hat hlt3 HOW HNE HL2 HSZ2 HB3
            refine hK.out _ _ trivial (fun _ => ?_)
            try simp only [Act.put]
            try simp only [List.setIfInBounds_toArray]
            try simp only [List.set_cons_succ]
            try simp only [List.set_cons_zero]
            clear hK K
            refine takeR (i := 8) (v := .pointer (some ⟨w.heap.size + 1, 3, none⟩)) rfl (by kernel_rfl) (by kernel_rfl) (by kernel_rfl) (fun _ _ _ h => h) (by rfl) (by intro W hSw; go_simp) trivial ?_
            try simp only [Act.put]
            try simp only [List.setIfInBounds_toArray]
            try simp only [List.set_cons_succ]
            try simp only [List.set_cons_zero]
            refine wpAnyH_ready (rs := [9]) (by kernel_rfl) (by simp) ?_
            refine AllReadyH.cons rfl (fun K hK => ?_) AllReadyH.nil
            rw [if_pos (by rfl)]
            go_simp
            refine hK.out _ _ trivial (fun _ => ?_)
            try simp only [Act.put]
            try simp only [List.setIfInBounds_toArray]
            try simp only [List.set_cons_succ]
            try simp only [List.set_cons_zero]
            clear hK K
            have HS4 := Lib.hid (HS3.out.setFar (b := w.heap.size + 1) (j := 3) (Nat.lt_succ_of_lt HG.out) (.slice (some ⟨g2, 0, none⟩) (jx + 1) cap2))
            clear y3 yf HS3
            refine wpAnyH_done (by kernel_rfl) ?_ _
            have HNX := Lib.hid (hst.out.next HJ2.out HM1.out HS4.out HPU.out)
            go_wp2_with fail
            go_roundw
            case rel => exact ⟨j + 1, i1, p1, e1, _, _, _, by go_num, by omega, HNX.out⟩
            case measure => simp [intOf]; omega
      · have CT := Lib.hid (rtext3_any HS5.out k hk64 m hm23)
        have tm0 : ((m : Int) == 0) = false := by rw [beq_eq_false_iff_ne]; omega
        have tm4 : ((m : Int) == 4) = false := by rw [beq_eq_false_iff_ne]; omega
        have HM2 : Hid (¬ m = 0 ∧ ¬ m = 4) := by show _ ∧ _; omega
        clear hm23
        clear ho6
        go_wp2_with fail
        refine CT.out.mono ?_
        rintro e w6 ⟨v, y, i2, p2, e2, rfl, hv, hs6, ho6, hm⟩
        obtain ⟨k1, n1, A1, nd1, cd1, AL1, nl1, cl1, rfl⟩ := hv.form
        have ho7 := HO6.out.trans ho6
        obtain ⟨⟨z0, z1, z2, z3⟩, f0, f1, f2, f3⟩ := HZ.out w6 ho7
        have HO7 := Lib.hid (HB.out _ ho7)
        have HV := Lib.hid hv
        have HS6 := Lib.hid hs6
        have HM := Lib.hid hm
        have HLO : Hid (w.heap.size + 1 ≤ w5.heap.size) := Nat.le_of_eq HZ5.out.symm
        clear hv hs6 ho6 hm ho7
        go_wp2_with fail
        refine bodyPost_ret (v := .agg #[.int .i64 k1, .int .u64 (n1 : Int), .slice A1 nd1 cd1, .slice AL1 nl1 cl1]) (by simp [results, Tryz.results29, go_sem, z0, z1, z2, z3]) rfl ?_
        rw [HR4.out, kindR, if_neg HM2.out.1, if_neg HM2.out.2]
        exact ⟨_, y, i2, p2, e2, rfl, HV.out.fin (Nat.le_refl _) HLO.out (Nat.le_of_succ_le HLO.out), HS6.out.set4 HG.out, set4_only HO7.out (Nat.le_refl _), HM.out⟩
theorem ritem3_all : ∀ D, ItemG D
  | 0 => fun w g A n c bs i p d hD hp h => ritem3_step (sub := fun _ _ => .error 32) (deep := true) rfl (by rw [decide_eq_true (by omega : d = 8)]) (by omega) (fun hh => by cases hh) hp h
  | D + 1 => fun w g A n c bs i p d hD hp h => ritem3_step (sub := dec D) (deep := false) rfl (by rw [decide_eq_false (by omega : ¬ d = 8)]) (by omega) (fun _ => ⟨D, by omega, rfl, ritem3_all D⟩) hp h
end
end Go.Proofs.YtbdjkihgcmebgaaGreatDoor
/- Decode of layer 3's reference. -/
namespace Go.Proofs.YtbdjkihgcmebgaaGreatDoor
open Go.RowKit

/-- A call gives back an item in new memory, how far it came, and a number. -/
def GivesDr (x : Itm) (n e : Int) (w : World) (en : Ending) (w' : World) : Prop := ∃ v, en = .returned (.tuple #[v, .int .i64 n, .int .i64 e]) ∧ RdI (mask (lows w.heap.size) w') w'.heap.size v x ∧ Below w.heap.size w w'
def decOf (l : List UInt8) (r : Except Int (Itm × Nat × List UInt8)) : Itm × Int × Int :=
  match r with
  | .error e => (.zero, 0, e)
  | .ok (x, _, r) => (x, ((l.length - r.length : Nat) : Int), 0)
theorem decode_of (l : List UInt8) : decode l = decOf l (dec 8 0 l) := rfl
set_option maxRecDepth 100000 in
set_option maxHeartbeats 4000000 in
theorem rdecode3_any (A : Option Addr) (n c B : Nat) (l : List UInt8) (w : World) (hB : B ≤ w.heap.size) (h : Rd w B A n l) (hn : n ≤ 140737488355328) (hc : n ≤ c) :
    Calls Tryz.prog 10 #[.slice A n c] w (GivesDr (decode l).1 (decode l).2.1 (decode l).2.2 w) := by
  have hst : RSt ((w.alloc (.cells #[.int .i64 0, .int .u64 0, .slice none 0 0, .slice none 0 0] 42)).alloc (.cells #[.slice A n c, .int .i64 0, .int .i64 0, .int .i64 0] 73)) (w.heap.size + 1) A n c l 0 0 0 :=
    ⟨by simp, by simp, by simp, by simp, by simp, by simp, by simp, ((h.alloc hB _).alloc (Nat.le_trans hB (le_alloc _ _)) _).more (by omega), Nat.zero_le _, hn, hc⟩
  have C1 := Lib.hid (ritem3_all 8 _ _ _ _ _ _ _ _ 0 (by rfl) (Nat.zero_le _) hst)
  obtain ⟨r, hr⟩ : ∃ r, r = dec 8 0 (l.drop 0) := ⟨_, rfl⟩
  rw [← hr] at C1
  have hd : decode l = decOf l r := by rw [hr, List.drop_zero, decode_of]
  obtain ⟨dl, hdl⟩ : ∃ dl, dl = decode l := ⟨_, rfl⟩
  rw [← hdl] at hd ⊢
  have HD := Lib.hid hd
  have hlen := h.1
  clear hst h hr hdl hd
  go_enter Tryz.func10, Tryz.ntmps10
  go_wp2_with fail
  refine C1.out.mono ?_
  rintro e w1 ⟨v, y, i1, p1, e1, rfl, hv, hs1, ho, hm⟩
  obtain ⟨k1, n1, A1, nd1, cd1, AL1, nl1, cl1, rfl⟩ := hv.form
  have hb1 := (ho.below (by simp)).mono (B' := w.heap.size + 1) (Nat.le_refl _)
  have hsz1 : w.heap.size + 2 ≤ w1.heap.size := by have := ho.size; simpa using this
  have hb2 : Below (w.heap.size + 1) (w.alloc (.cells #[.int .i64 0, .int .u64 0, .slice none 0 0, .slice none 0 0] 42)) (w1.alloc (.cells #[.int .i64 k1, .int .u64 (n1 : Int), .slice A1 nd1 cd1, .slice AL1 nl1 cl1] 42)) :=
    (((Below.refl _ _).alloc (by simp) _).trans hb1).alloc (by omega) _
  obtain ⟨⟨z0, z1, z2, z3⟩, f0, f1, f2, f3⟩ := zero_cells hb2
  have HBW := Lib.hid (((Below.refl w.heap.size w).alloc (Nat.le_refl _) (.cells #[.int .i64 0, .int .u64 0, .slice none 0 0, .slice none 0 0] 42)).trans (hb2.mono (Nat.le_succ _)))
  have r1 := (hs1.alloc (.cells #[.int .i64 k1, .int .u64 (n1 : Int), .slice A1 nd1 cd1, .slice AL1 nl1 cl1] 42)).c1
  have r3 := (hs1.alloc (.cells #[.int .i64 k1, .int .u64 (n1 : Int), .slice A1 nd1 cd1, .slice AL1 nl1 cl1] 42)).c3
  have HV := Lib.hid (hv.mask_go (S' := lows (w.heap.size + 2)) (w' := w1.alloc (.cells #[.int .i64 k1, .int .u64 (n1 : Int), .slice A1 nd1 cd1, .slice AL1 nl1 cl1] 42)) (B' := w1.heap.size + 1) (Nat.le_succ _) (fun k hk _ => Below.heap_alloc _ _ _ hk) (fun k _ hk => by have := lows_f.1 hk; simp at this; exact lows_f.2 this))
  have HSZ := Lib.hid hsz1
  have hi1 := hs1.hi
  rcases r with z | ⟨x, p', l'⟩
  · obtain ⟨rfl, he⟩ := hm
    have te : ((e1 : Int) != 0) = true := by rw [bne_iff_ne]; omega
    have HD2 : Hid (dl = (.zero, 0, (e1 : Int))) := HD.out
    clear hv hs1 ho hb1 hb2 hsz1 he HV HD r1
    go_wp2_with fail
    go_region
    go_wp2_with fail
    rw [HD2.out]
    refine bodyPost_ret (v := .tuple #[noItem, .int .i64 0, .int .i64 (e1 : Int)]) (by simp [results, Tryz.results10, go_sem, z0, z1, z2, z3, noItem]) rfl ⟨_, rfl, RdI.mk_uint (n := 0) (by decide), (set4_below HBW.out (Nat.le_refl _)).drew⟩
  · obtain ⟨rfl, rfl, rfl, rfl⟩ := hm
    have HD2 : Hid (dl = (y, (i1 : Int), 0)) := by
      have h1 : dl = (y, ((l.length - (l.drop i1).length : Nat) : Int), 0) := HD.out
      show _ = _
      rw [h1, List.length_drop, hlen, show n - (n - i1) = i1 by omega]
    clear hv hs1 ho hb1 hb2 hsz1 HD
    go_wp2_with fail
    go_region
    go_wp2_with fail
    rw [HD2.out]
    have hv2 := HV.out.fin (b := w.heap.size) (lo' := w.heap.size) (u0 := .int .i64 k1) (u1 := .int .u64 (n1 : Int)) (u2 := .slice A1 nd1 cd1) (u3 := .slice AL1 nl1 cl1) (by simp) (by omega) (by omega)
    have hv3 := hv2.mask_go (S' := lows w.heap.size) (w' := (set4 (w1.alloc (.cells #[.int .i64 k1, .int .u64 (n1 : Int), .slice A1 nd1 cd1, .slice AL1 nl1 cl1] 42)) w.heap.size (.int .i64 k1) (.int .u64 (n1 : Int)) (.slice A1 nd1 cd1) (.slice AL1 nl1 cl1)).drew) (Nat.le_refl _) (fun k hk _ => rfl) (fun k _ hk => hk)
    refine bodyPost_ret (v := .tuple #[.agg #[.int .i64 k1, .int .u64 (n1 : Int), .slice A1 nd1 cd1, .slice AL1 nl1 cl1], .int .i64 (i1 : Int), .int .i64 0]) (by simp [results, Tryz.results10, go_sem, z0, z1, z2, z3]) rfl ⟨_, rfl, hv3, (set4_below HBW.out (Nat.le_refl _)).drew⟩
end Go.Proofs.YtbdjkihgcmebgaaGreatDoor
