/- Age and Previous of layer 5's reference. -/
import Derived.Test.YtanbjifdcplmnaaGreatDoorTBcoT
import Derived.Test.YtanbjifdcplmnaaGreatDoorTBunVr
import Derived.Test.YtanbjifdcplmnaaGreatDoorTRfS
namespace Go.Proofs.YtanbjifdcplmnaaGreatDoor
open Go.RowKit

theorem dec_num {d : List UInt8} (h : (decode d).2.2 = 0) (hk : (decode d).1.kind ≠ 0) : (decode d).1.num = 0 := by
  rcases decode_cases d with ⟨e, he, hd⟩ | ⟨⟨k, n, dd, l⟩, r, hl, hf, hs, hd⟩
  · rw [hd] at h; simp only at h; omega
  · rw [hd] at hk ⊢
    have hr := hf.1
    rw [right, Bool.and_eq_true] at hr
    have ho := hr.1
    have hk' : k ≠ 0 := hk
    show n = 0
    unfold own at ho
    rw [if_neg hk'] at ho
    split at ho
    · simp only [Bool.and_eq_true, beq_iff_eq] at ho; exact ho.1
    · split at ho
      · simp only [Bool.and_eq_true, beq_iff_eq] at ho; exact ho.1
      · split at ho
        · simp only [Bool.and_eq_true, beq_iff_eq] at ho; exact ho.1
        · cases ho
theorem age_all (t : Nat) (d : List UInt8) : ageI (contB t 7 d) = if allB t 7 d = true ∧ (decode d).1.kind = 0 then ((decode d).1.num, true) else (0, false) := by
  rw [contB_all]
  by_cases h : allB t 7 d = true
  · rw [if_pos h]
    by_cases hk : (decode d).1.kind = 0
    · rw [if_pos ⟨h, hk⟩]
      show ((decode d).1.num, (decode d).1.kind == 0) = _
      rw [hk]; rfl
    · rw [if_neg (fun q => hk q.2)]
      show ((decode d).1.num, (decode d).1.kind == 0) = _
      rw [dec_num ((allB_iff t 7 d).1 h).2.1 hk]
      have : ((decode d).1.kind == 0) = false := by simpa using hk
      rw [this]
  · rw [if_neg h, if_neg (fun q => h q.1)]
    rfl

set_option maxRecDepth 100000 in
set_option maxHeartbeats 8000000 in
theorem rage_any (t n f : Nat) (c : Int) (A : Option Addr) (nd cd B : Nat) (d : List UInt8) (w : World) (hB : B ≤ w.heap.size) (h : Rd w B A nd d) (hn : nd ≤ 140737488355328) (hc : nd ≤ cd) :
    Calls Tryz.prog 15 #[blkV t n f c A nd cd] w fun e w' => e = .returned (.tuple #[.int .u64 ((ageI (contB t 7 d)).1 : Int), .bool (ageI (contB t 7 d)).2]) ∧ Below w.heap.size w w' := by
  have HB0 := Lib.hid ((Below.refl w.heap.size w).alloc (Nat.le_refl _) (.cells #[.int .u64 (t : Int), .int .u64 (n : Int), .int .u64 (f : Int), .int .i64 c, .slice A nd cd] 25))
  have C1 := Lib.hid (rwhole_any t n f 7 c A nd cd B d (w.alloc (.cells #[.int .u64 (t : Int), .int .u64 (n : Int), .int .u64 (f : Int), .int .i64 c, .slice A nd cd] 25)) (Nat.le_trans hB (le_alloc _ _)) (h.alloc hB _) hn hc)
  have hs0 : (w.alloc (.cells #[.int .u64 (t : Int), .int .u64 (n : Int), .int .u64 (f : Int), .int .i64 c, .slice A nd cd] 25)).heap.size = w.heap.size + 1 := by simp
  have HS0 := Lib.hid hs0
  have HA := Lib.hid (age_all t d)
  unfold WholeB at C1
  generalize ageI (contB t 7 d) = P at *
  generalize allB t 7 d = R at *
  generalize (decode d).1 = X at *
  obtain ⟨k, m, e0, l⟩ := X
  clear h hB hn hc hs0
  unfold blkV at *
  go_enter Tryz.func15, Tryz.ntmps15
  go_wp2_with fail
  refine C1.out.mono ?_
  rintro e w1 ⟨v, rfl, hv, hb⟩
  have hv' := hv.unmask
  obtain ⟨A1, nd1, cd1, AL, cl1, rfl, -, -, -, -, -, -⟩ := hv'.open
  rw [HS0.out] at hb
  have hz1 : w.heap.size + 1 ≤ w1.heap.size := by have := hb.size; rw [HS0.out] at this; exact this
  have B1 := Lib.hid ((HB0.out.trans (hb.mono (Nat.le_succ _))).alloc (HB0.out.trans (hb.mono (Nat.le_succ _))).size (.cells #[.int .i64 k, .int .u64 (m : Int), .slice A1 nd1 cd1, .slice AL l.length cl1] 37))
  generalize l.length = L at *
  clear hb hv hv' C1 hz1
  have hA := HA.out
  clear HA
  cases R with
  | false =>
    rw [if_neg (fun q => by cases q.1)] at hA
    subst hA
    go_wp2_with fail
    exact bodyPost_ret (v := .tuple #[.int .u64 0, .bool false]) (by simp [results, Tryz.results15, go_sem]) rfl ⟨rfl, B1.out⟩
  | true =>
    by_cases hk : k = 0
    · subst hk
      rw [if_pos ⟨rfl, rfl⟩] at hA
      subst hA
      go_wp2_with fail
      exact bodyPost_ret (v := .tuple #[.int .u64 (m : Int), .bool true]) (by simp [results, Tryz.results15, go_sem]) rfl ⟨rfl, B1.out⟩
    · rw [if_neg (fun q => hk q.2)] at hA
      subst hA
      have hk1 : (k != 0) = true := by simpa using hk
      clear hk
      go_wp2_with fail
      exact bodyPost_ret (v := .tuple #[.int .u64 0, .bool false]) (by simp [results, Tryz.results15, go_sem]) rfl ⟨rfl, B1.out⟩

set_option maxRecDepth 100000 in
set_option maxHeartbeats 8000000 in
theorem rprev_any (t n f : Nat) (c : Int) (A : Option Addr) (nd cd B : Nat) (d : List UInt8) (w : World) (hB : B ≤ w.heap.size) (h : Rd w B A nd d) (hn : nd ≤ 140737488355328) (hc : nd ≤ cd) :
    Calls Tryz.prog 17 #[blkV t n f c A nd cd] w (GivesPv (contB t 6 d) w) := by
  have HBA := Lib.hid ((Below.refl w.heap.size w).alloc (Nat.le_refl _) (.cells #[.int .u64 (t : Int), .int .u64 (n : Int), .int .u64 (f : Int), .int .i64 c, .slice A nd cd] 25))
  have HB0 := Lib.hid (HBA.out.alloc (le_alloc _ _) (.cells #[.int .i64 0, .string ⟨#[]⟩, .int .u64 0, .int .u64 0] 46))
  have hs0 : ((w.alloc (.cells #[.int .u64 (t : Int), .int .u64 (n : Int), .int .u64 (f : Int), .int .i64 c, .slice A nd cd] 25)).alloc (.cells #[.int .i64 0, .string ⟨#[]⟩, .int .u64 0, .int .u64 0] 46)).heap.size = w.heap.size + 2 := by simp
  have HS0 := Lib.hid hs0
  have C1 := Lib.hid (rwhole_any t n f 6 c A nd cd B d ((w.alloc (.cells #[.int .u64 (t : Int), .int .u64 (n : Int), .int .u64 (f : Int), .int .i64 c, .slice A nd cd] 25)).alloc (.cells #[.int .i64 0, .string ⟨#[]⟩, .int .u64 0, .int .u64 0] 46)) (by rw [hs0]; omega) (h.below (HB0.out.mono hB)) hn hc)
  have HE := Lib.hid (fun (W : World) (hb : Below (w.heap.size + 1 + 1) ((w.alloc (.cells #[.int .u64 (t : Int), .int .u64 (n : Int), .int .u64 (f : Int), .int .i64 c, .slice A nd cd] 25)).alloc (.cells #[.int .i64 0, .string ⟨#[]⟩, .int .u64 0, .int .u64 0] 46)) W) => zeroE (w := (w.alloc (.cells #[.int .u64 (t : Int), .int .u64 (n : Int), .int .u64 (f : Int), .int .i64 c, .slice A nd cd] 25))) (g := w.heap.size + 1) (by simp) hb)
  have HA := Lib.hid (contB_all t 6 d)
  unfold WholeB at C1
  generalize contB t 6 d = O at *
  generalize allB t 6 d = R at *
  generalize (decode d).1 = X at *
  clear h hB hn hc hs0
  unfold blkV at *
  go_enter Tryz.func17, Tryz.ntmps17
  go_wp2_with fail
  refine C1.out.mono ?_
  rintro e w1 ⟨v, rfl, hv, hb⟩
  rw [HS0.out] at hb
  have hz1 : w.heap.size + 2 ≤ w1.heap.size := by have := hb.size; rw [HS0.out] at this; exact this
  have hv' := hv.unmask
  obtain ⟨k1, n1, A1, nd1, cd1, AL1, nl1, cl1, rfl⟩ := hv'.form
  have hb2 := hb.alloc hz1 (.cells #[.int .i64 k1, .int .u64 (n1 : Int), .slice A1 nd1 cd1, .slice AL1 nl1 cl1] 37)
  have B2 := Lib.hid hb2
  have hz2 : w.heap.size + 2 ≤ (w1.alloc (.cells #[.int .i64 k1, .int .u64 (n1 : Int), .slice A1 nd1 cd1, .slice AL1 nl1 cl1] 37)).heap.size := Nat.le_trans hz1 (le_alloc _ _)
  have HZ2 := Lib.hid hz2
  have CF := Lib.hid (rfrom_any X _ w1.heap.size (w1.alloc (.cells #[.int .i64 k1, .int .u64 (n1 : Int), .slice A1 nd1 cd1, .slice AL1 nl1 cl1] 37)) (le_alloc _ _) (hv'.below ((Below.refl _ _).alloc (Nat.le_refl _) _)))
  clear hb hb2 hv hv' C1 hz1 hz2
  go_wp2_with fail
  refine CF.out.mono ?_
  rintro e w3 ⟨hb3, ⟨sc, s, n', v', rfl, -, -, -, hck, hit⟩ | ⟨hno, rfl⟩⟩
  · have H := Lib.hid (And.intro hck hit)
    have hb4 := (B2.out.trans (hb3.mono HZ2.out)).alloc (Nat.le_trans HZ2.out hb3.size) (.cells #[.int .i64 sc, .string s, .int .u64 (n' : Int), .int .u64 (v' : Int)] 46)
    obtain ⟨⟨z0, z1, z2, z3⟩, f0, f1, f2, f3⟩ := HE.out _ hb4
    have B4 := Lib.hid (HB0.out.trans (hb4.mono (by omega)))
    clear hck hit hb3 hb4
    unfold epdV at *
    cases R with
    | true =>
      have hA := HA.out
      clear HA
      rw [if_pos rfl] at hA
      subst hA
      go_wp2_with fail
      exact bodyPost_ret (v := .tuple #[epdV sc s n' v', .bool true]) (by simp [results, Tryz.results17, go_sem, z0, z1, z2, z3, epdV]) rfl ⟨below_set4 B4.out (by omega), .inl ⟨X, sc, s, n', v', rfl, rfl, H.out.1, H.out.2⟩⟩
    | false =>
      have hA := HA.out
      clear HA
      rw [if_neg (by decide)] at hA
      subst hA
      go_wp2_with fail
      exact bodyPost_ret (v := .tuple #[epdV 0 ⟨#[]⟩ 0 0, .bool false]) (by simp [results, Tryz.results17, go_sem, z0, z1, z2, z3, epdV]) rfl ⟨by first | exact B4.out | exact below_set4 B4.out (by omega), .inr ⟨fun y hy => (by cases hy), rfl⟩⟩
  · have H := Lib.hid hno
    have hb4 := (B2.out.trans (hb3.mono HZ2.out)).alloc (Nat.le_trans HZ2.out hb3.size) (.cells #[.int .i64 0, .string ⟨#[]⟩, .int .u64 0, .int .u64 0] 46)
    obtain ⟨⟨z0, z1, z2, z3⟩, f0, f1, f2, f3⟩ := HE.out _ hb4
    have B4 := Lib.hid (HB0.out.trans (hb4.mono (by omega)))
    have HQ : Hid (∀ y, O = some y → ∀ e0, checkB e0 = true → itemE e0 ≠ y) := fun y hy => by
      have hA := HA.out
      cases R with
      | true => rw [if_pos rfl] at hA; rw [hA] at hy; injection hy with hy; subst hy; exact H.out
      | false => rw [if_neg (by decide)] at hA; rw [hA] at hy; cases hy
    clear hno hb3 hb4 HA
    unfold epdV at *
    cases R with
    | true =>
      go_wp2_with fail
      exact bodyPost_ret (v := .tuple #[epdV 0 ⟨#[]⟩ 0 0, .bool false]) (by simp [results, Tryz.results17, go_sem, z0, z1, z2, z3, epdV]) rfl ⟨by first | exact B4.out | exact below_set4 B4.out (by omega), .inr ⟨HQ.out, rfl⟩⟩
    | false =>
      go_wp2_with fail
      exact bodyPost_ret (v := .tuple #[epdV 0 ⟨#[]⟩ 0 0, .bool false]) (by simp [results, Tryz.results17, go_sem, z0, z1, z2, z3, epdV]) rfl ⟨by first | exact B4.out | exact below_set4 B4.out (by omega), .inr ⟨HQ.out, rfl⟩⟩
end Go.Proofs.YtanbjifdcplmnaaGreatDoor
