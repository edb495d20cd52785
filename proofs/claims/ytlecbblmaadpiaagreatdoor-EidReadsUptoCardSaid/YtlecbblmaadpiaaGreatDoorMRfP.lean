/- Node of layer 4's reference; Item of an endpoint that may not be. -/
import Derived.Test.YtlecbblmaadpiaaGreatDoorMEidI1
import Derived.Test.YtlecbblmaadpiaaGreatDoorMRfG
import Derived.Test.YtlecbblmaadpiaaGreatDoorMRfI
namespace Go.Proofs.YtlecbblmaadpiaaGreatDoor
open Go.RowKit
open Go.Lib (decDigits)
theorem str_to (l : List UInt8) (s : ByteArray) (hl : s.data.toList = l) (k : Int) (m : Nat) (hk : k = (m : Int)) (hm : m ≤ l.length) (W : World) : (Instr.slice 9 (.string s) none (some (.int .i64 k)) none).run Tryz.prog W = .ok (.string (strL (l.take m))) W := by
  have hz : s.size = l.length := by rw [Lib.size_eq, hl]
  rw [run_slice_string_to_if W _ _ _ _ Tryz.underlying9, if_pos (by omega)]
  congr 2
  rw [Lib.extract_eq, hl, hk, Int.toNat_natCast, List.drop_zero]
  unfold strL
  simp
set_option maxRecDepth 100000 in
set_option maxHeartbeats 4000000 in
theorem rnodeE_any (sc : Int) (s : ByteArray) (n v : Nat) (w : World) (hs : s.size ≤ 140737488355328) (hn : n < 18446744073709551616) :
    Calls Tryz.prog 23 #[epdV sc s n v] w fun e w' => e = .returned (.string (strL (nodeE (ep sc s n v)))) ∧ Below w.heap.size w w' := by
  have C1 := Lib.hid (fun W => rcheckE_any sc s n v W hs)
  have C2 := Lib.hid (fun W => rnone_any sc s n v W)
  have C3 := Lib.hid (fun W => rdec_any n W hn)
  have C4 := Lib.hid (fun W => rslash_any s W hs)
  have HB0 := Lib.hid ((Below.refl w.heap.size w).alloc (Nat.le_refl _) (.cells #[.int .i64 sc, .string s, .int .u64 (n : Int), .int .u64 (v : Int)] 25))
  cases hc : checkB (ep sc s n v) with
  | false =>
    have ht : nodeE (ep sc s n v) = [] := by unfold nodeE; rw [if_pos (.inl hc)]
    rw [ht]
    rw [hc] at C1
    clear hc ht
    unfold epdV at *
    go_enter Tryz.func23, Tryz.ntmps23
    go_wp2_with fail
    refine (C1.out _).mono ?_
    rintro e w1 ⟨rfl, hb⟩
    have B1 := Lib.hid (HB0.out.trans (hb.mono (le_alloc _ _)))
    clear hb
    go_wp2_with fail
    go_ret
    exact ⟨rfl, B1.out⟩
  | true =>
    rw [hc] at C1
    cases hno : noneB (ep sc s n v) with
    | true =>
      have ht : nodeE (ep sc s n v) = [] := by unfold nodeE; rw [if_pos (.inr hno)]
      rw [ht]
      rw [hno] at C2
      clear hc ht hno
      unfold epdV at *
      go_enter Tryz.func23, Tryz.ntmps23
      go_wp2_with fail
      refine (C1.out _).mono ?_
      rintro e w1 ⟨rfl, hb⟩
      have g1 := box_cells4 hb
      have B1 := Lib.hid (HB0.out.trans (hb.mono (le_alloc _ _)))
      clear hb
      obtain ⟨g10, g11, g12, g13⟩ := g1
      go_wp2_with fail
      refine (C2.out _).mono ?_
      rintro e w2 ⟨rfl, hb⟩
      have B2 := Lib.hid (B1.out.trans (hb.mono B1.out.size))
      clear hb g10 g11 g12 g13
      go_wp2_with fail
      go_ret
      exact ⟨rfl, B2.out⟩
    | false =>
      rw [hno] at C2
      by_cases h1 : sc = 1
      · subst h1
        obtain ⟨-, -, hnm⟩ := check_dtn hc rfl
        have he : (ep 1 s n v).name ≠ [] := fun he => by
          have h3 := hno
          obtain ⟨h0, h1, -⟩ := check_dtn hc rfl
          unfold noneB at h3
          rw [he, h0, h1] at h3
          simp [ep] at h3
        have hnb : nameB s.data.toList = true := hnm.elim (fun h => absurd h he) id
        have ht := node_dtn hc rfl he
        rw [ep_name] at ht
        obtain ⟨r, hr, -, -, h3, h64⟩ := name_head hnb
        have hs64 : s.size ≤ 64 := by rw [Lib.size_eq]; exact h64
        obtain ⟨m, hm⟩ : ∃ m, m = third s.data.toList + 1 := ⟨_, rfl⟩
        have hml : m ≤ s.data.toList.length := by rw [hm, hr]; unfold third; simp; omega
        have hsl := str_to s.data.toList s rfl ((m : Nat) : Int) m rfl hml
        have hsi : slashI s.data.toList = ((third s.data.toList : Nat) : Int) := by unfold slashI; rw [if_pos hnb]
        obtain ⟨t3, ht3⟩ : ∃ t3, t3 = third s.data.toList := ⟨_, rfl⟩
        rw [← ht3] at hsi hm ht
        rw [hsi] at C4
        have hmt : (t3 : Int) + 1 = (m : Int) := by omega
        have hw1 : wrap64 ((t3 : Int) + 1) = (m : Int) := by rw [hmt]; unfold wrap64; have := h64; omega
        have hw2 : IntKind.i64.wrap ((t3 : Int) + 1) = (m : Int) := by rw [i64eq]; exact hw1
        have eR : (⟨#[100, 116, 110, 58]⟩ : ByteArray) ++ strL (s.data.toList.take m) = strL (dtnL ++ s.data.toList.take m) := by rw [← strL_app]; rfl
        have HE : Hid (strL (nodeE (ep 1 s n v)) = (⟨#[100, 116, 110, 58]⟩ : ByteArray) ++ strL (s.data.toList.take m)) := by show _ = _; rw [ht, eR, hm]
        rw [HE.out]
        have hsz : (strL (s.data.toList.take m)).size ≤ 64 := by rw [strL_size, List.length_take]; omega
        generalize strL (s.data.toList.take m) = sm at *
        clear hc ht hno hnm he hnb hr h3 h64 hm hml hsi ht3 hmt eR HE
        unfold epdV at *
        go_enter Tryz.func23, Tryz.ntmps23
        go_wp2_with fail
        refine (C1.out _).mono ?_
        rintro e w1 ⟨rfl, hb⟩
        have g1 := box_cells4 hb
        have B0 := Lib.hid hb
        have B1 := Lib.hid (HB0.out.trans (hb.mono (le_alloc _ _)))
        clear hb
        obtain ⟨g10, g11, g12, g13⟩ := g1
        go_wp2_with fail
        refine (C2.out _).mono ?_
        rintro e w2 ⟨rfl, hb⟩
        have g2 := box_cells4 (B0.out.trans (hb.mono B0.out.size))
        have B2 := Lib.hid (B1.out.trans (hb.mono B1.out.size))
        clear hb g10 g11 g12 g13
        obtain ⟨g20, g21, g22, g23⟩ := g2
        have CS := Lib.hid (fun k => Calls.quiet_of_same (n := k) ((C4.out (w2.drewN k)).mono (fun _ _ h => ⟨h.1, h.2.symm⟩)))
        go_wp2_with fail
        go_quiet (first | (go_at_call 69; exact CS.out _) | fail)
        rename_i nq
        have B3 := Lib.hid (below_qN w.heap.size w2 nq)
        go_wp2_with fail
        go_ret
        exact ⟨rfl, B2.out.trans B3.out⟩
      · obtain ⟨h2, hnm, -, -, -⟩ := check_ipn hc h1
        have h2' : sc = 2 := h2
        subst h2'
        have ht := nodeE_ipn hc rfl
        have l1 := nd20 n hn
        have eR : ((⟨#[105, 112, 110, 58]⟩ : ByteArray) ++ strL (decDigits n)) ++ ⟨#[46, 48]⟩ = strL (ipnL ++ (decDigits n ++ [46, 48])) := by
          rw [show (⟨#[105, 112, 110, 58]⟩ : ByteArray) = strL ipnL from rfl, show (⟨#[46, 48]⟩ : ByteArray) = strL [46, 48] from rfl, strL_app, strL_app]
          congr 1
        have s1 : (strL (decDigits n)).size ≤ 20 := by rw [strL_size]; exact l1
        have HE : Hid (strL (nodeE (ep 2 s n v)) = ((⟨#[105, 112, 110, 58]⟩ : ByteArray) ++ strL (decDigits n)) ++ ⟨#[46, 48]⟩) := by show _ = _; rw [ht, eR]; rfl
        rw [HE.out]
        generalize strL (decDigits n) = sn at *
        clear hc ht hno hnm l1 eR HE h1 h2
        unfold epdV at *
        go_enter Tryz.func23, Tryz.ntmps23
        go_wp2_with fail
        refine (C1.out _).mono ?_
        rintro e w1 ⟨rfl, hb⟩
        have g1 := box_cells4 hb
        have B0 := Lib.hid hb
        have B1 := Lib.hid (HB0.out.trans (hb.mono (le_alloc _ _)))
        clear hb
        obtain ⟨g10, g11, g12, g13⟩ := g1
        go_wp2_with fail
        refine (C2.out _).mono ?_
        rintro e w2 ⟨rfl, hb⟩
        have g2 := box_cells4 (B0.out.trans (hb.mono B0.out.size))
        have B2 := Lib.hid (B1.out.trans (hb.mono B1.out.size))
        clear hb g10 g11 g12 g13
        obtain ⟨g20, g21, g22, g23⟩ := g2
        go_wp2_with fail
        refine (C3.out _).mono ?_
        rintro e w3 ⟨rfl, rfl⟩
        go_wp2_with fail
        go_ret
        exact ⟨rfl, B2.out⟩
set_option maxRecDepth 100000 in
set_option maxHeartbeats 2000000 in
theorem ritem_no (sc : Int) (s : ByteArray) (n v : Nat) (w : World) (hs : s.size ≤ 140737488355328) (hc : checkB (ep sc s n v) = false) :
    Calls Tryz.prog 14 #[epdV sc s n v] w fun e w' => e = .returned (.tuple #[zeroItem, .int .i64 40]) ∧ Below w.heap.size w w' := by
  have C1 := Lib.hid (fun W => rcheckE_any sc s n v W hs)
  rw [hc] at C1
  have HB0 := Lib.hid (((Below.refl w.heap.size w).alloc (Nat.le_refl _) (.cells #[.int .i64 sc, .string s, .int .u64 (n : Int), .int .u64 (v : Int)] 25)).alloc (le_alloc _ _) (.cells #[.int .i64 0, .int .u64 0, .slice none 0 0, .slice none 0 0] 30))
  have HS0 : Hid (((w.alloc (.cells #[.int .i64 sc, .string s, .int .u64 (n : Int), .int .u64 (v : Int)] 25)).alloc (.cells #[.int .i64 0, .int .u64 0, .slice none 0 0, .slice none 0 0] 30)).heap.size = w.heap.size + 2) := by show _ = _; simp
  have HX := Lib.hid (fun (W : World) (hb : Below (w.heap.size + 2) ((w.alloc (.cells #[.int .i64 sc, .string s, .int .u64 (n : Int), .int .u64 (v : Int)] 25)).alloc (.cells #[.int .i64 0, .int .u64 0, .slice none 0 0, .slice none 0 0] 30)) W) => row_of_box (w := w.alloc (.cells #[.int .i64 sc, .string s, .int .u64 (n : Int), .int .u64 (v : Int)] 25)) (g := w.heap.size + 1) (by simp) hb)
  clear hc hs
  unfold epdV at *
  go_enter Tryz.func14, Tryz.ntmps14
  go_wp2_with fail
  refine (C1.out _).mono ?_
  rintro e w1 ⟨rfl, hb⟩
  have R1 := Lib.hid (HX.out w1 (hb.mono (Nat.le_of_eq HS0.out.symm)))
  have B1 := Lib.hid (HB0.out.trans (hb.mono (by rw [HS0.out]; omega)))
  clear hb
  go_wp2_with (first
    | (refine wpList_st4 rfl 30 (.tmp 2) (.tmp 8) rfl _ _ _ _ _ rfl rfl _ _ R1.out size_it rfl rfl ?_; intro w3 hst3; have B3 := Lib.hid (hst3.2.1 _ _ B1.out (Nat.le_succ _)); have Y3 := Lib.hid hst3.1; clear hst3)
    | fail)
  exact bodyPost_ret (res_it Tryz.results14 _ _ rfl Y3.out rfl) rfl ⟨rfl, B3.out⟩
end Go.Proofs.YtlecbblmaadpiaaGreatDoor
/- number of layer 4's reference: a number's digits. -/
namespace Go.Proofs.YtlecbblmaadpiaaGreatDoor
open Go.RowKit
open Go.Lib (decDigits)
def valD (l : List UInt8) : Nat := l.foldl (fun a c => 10 * a + (c.toNat - 48)) 0
theorem valD_push (l : List UInt8) (c : UInt8) : valD (l ++ [c]) = 10 * valD l + (c.toNat - 48) := by
  unfold valD
  rw [List.foldl_append]
  rfl
theorem dig_nat (d : Nat) (h : d < 10) : (UInt8.ofNat (48 + d)).toNat = 48 + d := by
  have h2 : ∀ d : Fin 10, (UInt8.ofNat (48 + d.val)).toNat = 48 + d.val := by decide +kernel
  exact h2 ⟨d, h⟩
theorem dec_dig : ∀ x : Nat, ∀ c ∈ decDigits x, 48 ≤ c.toNat ∧ c.toNat ≤ 57 := by
  intro x
  induction x using Nat.strongRecOn with
  | _ x ih =>
    intro c hc
    by_cases hx : x < 10
    · rw [dec_small hx] at hc
      obtain rfl : c = UInt8.ofNat (48 + x) := by simpa using hc
      rw [dig_nat x hx]
      omega
    · rw [dec_big hx, List.mem_append] at hc
      rcases hc with hc | hc
      · exact ih (x / 10) (by omega) c hc
      · obtain rfl : c = UInt8.ofNat (48 + x % 10) := by simpa using hc
        rw [dig_nat (x % 10) (by omega)]
        omega
theorem valD_dec : ∀ x : Nat, valD (decDigits x) = x := by
  intro x
  induction x using Nat.strongRecOn with
  | _ x ih =>
    by_cases hx : x < 10
    · rw [dec_small hx]
      unfold valD
      simp only [List.foldl_cons, List.foldl_nil]
      rw [dig_nat x hx]
      omega
    · rw [dec_big hx, valD_push, ih (x / 10) (by omega), dig_nat (x % 10) (by omega)]
      omega
theorem dec_len10 (x : Nat) (h : x ≤ 4294967295) : 1 ≤ (decDigits x).length ∧ (decDigits x).length ≤ 10 := by
  have key : ∀ (k x : Nat), x < 10 ^ (k + 1) → (decDigits x).length ≤ k + 1 := by
    intro k
    induction k with
    | zero => intro x hx; rw [dec_small (by simpa using hx)]; simp
    | succ k ih =>
      intro x hx
      by_cases h : x < 10
      · rw [dec_small h]; simp
      · rw [dec_big h, List.length_append]
        have := ih (x / 10) (by rw [Nat.pow_succ] at hx; omega)
        simp
        omega
  refine ⟨?_, key 9 x (by omega)⟩
  by_cases hx : x < 10
  · rw [dec_small hx]; simp
  · rw [dec_big hx]; simp
def NumR (l : List UInt8) (w : World) (e : Ending) (w' : World) : Prop := ∃ (x : Nat) (b : Bool), e = .returned (.tuple #[.int .u64 (x : Int), .bool b]) ∧ x < 18446744073709551616 ∧ (b = true → l = decDigits x) ∧ (∀ N, N ≤ 4294967295 → l = decDigits N → b = true ∧ x = N) ∧ w = w'
set_option maxRecDepth 100000 in
set_option maxHeartbeats 8000000 in
theorem rnumber4_any (s : ByteArray) (w : World) (hs : s.size ≤ 140737488355328) :
    Calls Tryz.prog 74 #[.string s] w (NumR s.data.toList w) := by
  have HIX := Lib.hid (str_ix s)
  have hsz : s.size = s.data.toList.length := Lib.size_eq s
  have hsT : s.toList = s.data.toList := Lib.toList_data s
  obtain ⟨l, hl⟩ : ∃ l, l = s.data.toList := ⟨_, rfl⟩
  have HL := Lib.hid hl
  rw [← hl] at hsz hsT ⊢
  have HSZ := Lib.hid hsz
  have HG : Hid (∀ e w' (x : Nat) (b : Bool), e = .returned (.tuple #[.int .u64 (x : Int), .bool b]) → x < 18446744073709551616 → (b = true → l = decDigits x) → (∀ N, N ≤ 4294967295 → l = decDigits N → b = true ∧ x = N) → w = w' → NumR l w e w') := fun _ _ x b h1 h2 h3 h4 h5 => ⟨x, b, h1, h2, h3, h4, h5⟩
  clear hl hsz
  go_enter Tryz.func74, Tryz.ntmps74
  go_wp2_with fail
  go_loop [4, 5] (fun n i => ∃ (k v : Nat), k ≤ l.length ∧ k ≤ 11 ∧ i = .int .i64 (k : Int) ∧ n = .int .u64 (v : Int) ∧ Hid (∀ c ∈ l.take k, 48 ≤ c.toNat ∧ c.toNat ≤ 57) ∧ Hid (v = valD (l.take k)) ∧ Hid (v < 10 ^ k)) (fun _ i => 11 - (intOf i).toNat)
  case atStart => exact ⟨0, 0, Nat.zero_le _, Nat.zero_le _, rfl, rfl, fun c hc => by simp at hc, rfl, by show _ < _; decide⟩
  case round =>
    obtain ⟨k, v, hk, hk11, rfl, rfl, hall, hval, hpow⟩ := hrel
    by_cases hlt : k < l.length
    · by_cases h11 : k < 11
      · obtain ⟨c, hc⟩ : ∃ c, c = l[k]'hlt := ⟨_, rfl⟩
        have hix : ∀ W, (Instr.index 9 (.string s) (.int .i64 (k : Int))).run Tryz.prog W = .ok (.int .u8 (c.toNat : Int)) W := fun W => by
          have h := HIX.out k (by rw [← HL.out]; exact hlt) W
          have e : s.data.toList[k]'(by rw [← HL.out]; exact hlt) = c := by rw [hc]; simp only [HL.out]
          rw [e] at h
          exact h
        have hcm : c ∈ l := by rw [hc]; exact List.getElem_mem hlt
        have ht : l.take (k + 1) = l.take k ++ [c] := by rw [List.take_succ_eq_append_getElem hlt, hc]
        have hkk : (k : Int) < (s.size : Int) := by have := HSZ.out; omega
        have hkd : decide ((k : Int) < (s.size : Int)) = true := decide_eq_true hkk
        have hk11d : decide ((k : Int) < 11) = true := decide_eq_true (by omega)
        obtain ⟨C, hC⟩ : ∃ C, C = c.toNat := ⟨_, rfl⟩
        rw [← hC] at hix
        have hC256 : C < 256 := by rw [hC]; exact c.toNat_lt
        have HT := Lib.hid ht
        have HC := Lib.hid hC
        have HCM := Lib.hid hcm
        clear hc ht hC hcm
        by_cases hlo : C < 48
        · have d1 : decide ((C : Int) < 48) = true := decide_eq_true (by omega)
          have HNO : Hid (∀ N, l ≠ decDigits N) := fun N hN => by
            have h1 := dec_dig N c (by rw [← hN]; exact HCM.out)
            have h2 := HC.out
            omega
          clear hlo hC256
          go_wp2_with fail
          go_ret2
          exact HG.out _ _ 0 false rfl (by decide) (fun h => by cases h) (fun N _ hN => absurd hN (HNO.out N)) rfl
        · have d1 : decide ((C : Int) < 48) = false := decide_eq_false (by omega)
          by_cases hhi : 57 < C
          · have d2 : decide ((57 : Int) < (C : Int)) = true := decide_eq_true (by omega)
            have HNO : Hid (∀ N, l ≠ decDigits N) := fun N hN => by
              have h1 := dec_dig N c (by rw [← hN]; exact HCM.out)
              have h2 := HC.out
              omega
            clear hlo hhi hC256
            go_wp2_with fail
            go_ret2
            exact HG.out _ _ 0 false rfl (by decide) (fun h => by cases h) (fun N _ hN => absurd hN (HNO.out N)) rfl
          · have d2 : decide ((57 : Int) < (C : Int)) = false := decide_eq_false (by omega)
            have hp11 : v < 10 ^ 11 := Nat.lt_of_lt_of_le hpow.out (Nat.pow_le_pow_right (by decide) hk11)
            obtain ⟨D, hD⟩ : ∃ D, D = C - 48 := ⟨_, rfl⟩
            obtain ⟨V2, hV2⟩ : ∃ V2, V2 = 10 * v + D := ⟨_, rfl⟩
            obtain ⟨V1, hV1⟩ : ∃ V1, V1 = 10 * v := ⟨_, rfl⟩
            have q1 : IntKind.u64.wrap (10 * (v : Int)) = (V1 : Int) := by rw [IntKind.wrap_u64]; omega
            have q2 : IntKind.u8.wrap ((C : Int) - 48) = (D : Int) := by rw [IntKind.wrap_u8]; omega
            have q3 : IntKind.u64.wrap (D : Int) = (D : Int) := by rw [IntKind.wrap_u64]; omega
            have q4 : IntKind.u64.wrap ((V1 : Int) + (D : Int)) = (V2 : Int) := by rw [IntKind.wrap_u64]; omega
            have hall2 : Hid (∀ c ∈ l.take (k + 1), 48 ≤ c.toNat ∧ c.toNat ≤ 57) := fun y hy => by
              rw [HT.out, List.mem_append] at hy
              rcases hy with hy | hy
              · exact hall.out y hy
              · obtain rfl : y = c := by simpa using hy
                have := HC.out
                omega
            have hval2 : Hid (V2 = valD (l.take (k + 1))) := by show _ = _; rw [HT.out, valD_push, ← hval.out, ← HC.out, hV2, hD]
            have hpow2 : Hid (V2 < 10 ^ (k + 1)) := by show _ < _; have := hpow.out; rw [Nat.pow_succ]; omega
            clear hlo hhi hC256 hp11 hD hV2 hV1
            go_wp2_with fail
            go_round
            case rel => exact ⟨k + 1, V2, by omega, by omega, by go_num, rfl, hall2, hval2, hpow2⟩
            case measure => simp [intOf]; omega
      · have hke : k = 11 := by omega
        have hkk : (k : Int) < (s.size : Int) := by have := HSZ.out; omega
        have hkd : decide ((k : Int) < (s.size : Int)) = true := decide_eq_true hkk
        have hk11d : decide ((k : Int) < 11) = false := decide_eq_false (by omega)
        have hpow := Lib.hid (show v < 10 ^ 11 by have := hpow.out; rw [hke] at this; exact this)
        have h0 : decide ((0 : Int) < (s.size : Int)) = true := decide_eq_true (by omega)
        have h10 : decide ((s.size : Int) ≤ 10) = false := decide_eq_false (by omega)
        have n10 : ¬ s.size ≤ 10 := by omega
        have n0 : 0 < s.size := by omega
        have HNO : Hid (∀ N, N ≤ 4294967295 → l ≠ decDigits N) := fun N hN e => by
          have := (dec_len10 N hN).2
          rw [← e] at this
          omega
        have hv64 : v < 18446744073709551616 := by have := hpow.out; omega
        clear hke h11
        go_wp2_with fail
        go_ret2
        exact HG.out _ _ v false rfl hv64 (fun h => by cases h) (fun N h hN => absurd hN (HNO.out N h)) rfl
    · have hkl : k = l.length := by omega
      have hkk : decide ((k : Int) < (s.size : Int)) = false := decide_eq_false (by have := HSZ.out; omega)
      have hkp : ¬ (k : Int) < (s.size : Int) := by have := HSZ.out; omega
      have hkq : ¬ k < s.size := by have := HSZ.out; omega
      have hv64 : v < 18446744073709551616 := Nat.lt_trans (Nat.lt_of_lt_of_le hpow.out (Nat.pow_le_pow_right (by decide) hk11)) (by decide)
      have HV : Hid (v = valD l) := by show _ = _; rw [hval.out, hkl, List.take_length]
      have HVN : Hid (∀ N, l = decDigits N → v = N) := fun N hN => by rw [HV.out, hN, valD_dec]
      have HKS : Hid (k = s.size) := by show _ = _; rw [HSZ.out]; exact hkl
      by_cases h0 : k = 0
      · have d0 : decide ((0 : Int) < (s.size : Int)) = false := decide_eq_false (by have := HKS.out; omega)
        have n0 : ¬ 0 < s.size := by have := HKS.out; omega
        have HNO : Hid (∀ N, N ≤ 4294967295 → l ≠ decDigits N) := fun N hN e => by
          have := (dec_len10 N hN).1
          rw [← e] at this
          omega
        clear h0 hkl hlt
        go_wp2_with fail
        go_ret2
        exact HG.out _ _ v false rfl hv64 (fun h => by cases h) (fun N h hN => absurd hN (HNO.out N h)) rfl
      · have d0 : decide ((0 : Int) < (s.size : Int)) = true := decide_eq_true (by have := HKS.out; omega)
        have n0 : 0 < s.size := by have := HKS.out; omega
        by_cases h10 : k ≤ 10
        · have d1 : decide ((s.size : Int) ≤ 10) = true := decide_eq_true (by have := HKS.out; omega)
          have n10 : s.size ≤ 10 := by have := HKS.out; omega
          have C1 := Lib.hid (rdec_any v w hv64)
          have eT : (strL (decDigits v)).toList = decDigits v := by rw [Lib.toList_data, strL_list]
          by_cases heq : l = decDigits v
          · have he : (strL (decDigits v)) = s := by rw [← heq, HL.out]; exact strL_data s
            have HEQ := Lib.hid heq
            rw [he] at C1
            have t1 : (s.toList == s.toList) = true := by simp
            clear h0 hkl hlt h10 eT heq he hsT
            go_wp2_with fail
            refine C1.out.mono ?_
            rintro e w1 ⟨rfl, rfl⟩
            go_wp2_with fail
            go_ret2
            exact HG.out _ _ v true rfl hv64 (fun _ => HEQ.out) (fun N _ hN => ⟨rfl, HVN.out N hN⟩) rfl
          · have t1 : ((strL (decDigits v)).toList == s.toList) = false := by rw [eT, hsT, beq_eq_false_iff_ne]; exact fun e => heq e.symm
            have HNO : Hid (∀ N, N ≤ 4294967295 → l ≠ decDigits N) := fun N _ e => heq (by have := HVN.out N e; rw [this]; exact e)
            generalize strL (decDigits v) = sv at *
            clear h0 hkl hlt h10 eT heq hsT
            go_wp2_with fail
            refine C1.out.mono ?_
            rintro e w1 ⟨rfl, rfl⟩
            go_wp2_with fail
            go_ret2
            exact HG.out _ _ v false rfl hv64 (fun h => by cases h) (fun N h hN => absurd hN (HNO.out N h)) rfl
        · have d1 : decide ((s.size : Int) ≤ 10) = false := decide_eq_false (by have := HKS.out; omega)
          have n10 : ¬ s.size ≤ 10 := by have := HKS.out; omega
          have HNO : Hid (∀ N, N ≤ 4294967295 → l ≠ decDigits N) := fun N hN e => by
            have := (dec_len10 N hN).2
            rw [← e] at this
            omega
          clear h0 hkl hlt h10
          go_wp2_with fail
          go_ret2
          exact HG.out _ _ v false rfl hv64 (fun h => by cases h) (fun N h hN => absurd hN (HNO.out N h)) rfl
end Go.Proofs.YtlecbblmaadpiaaGreatDoor
