/- The walk of the statement HmacKeys. -/
import Derived.Test.YtllodapnbdbpeaaHmE
import Derived.Test.YtllodapnbdbpeaaHmN
namespace Go.Proofs.Ytllodapnbdbpeaa
open Go.RowKit

set_option maxRecDepth 100000 in
set_option maxHeartbeats 4000000 in
theorem hmacKeys_walk (A : Option Addr) (n c : Nat) (k : List UInt8) (A' : Option Addr) (n' c' : Nat) (t : List UInt8) (more cut : Int) (w : World) (hb : Rd w w.heap.size A n k ∧ n ≤ c ∧ c ≤ 140737488351232) (hb' : Rd w w.heap.size A' n' t ∧ n' ≤ c' ∧ c' ≤ 140737488351232) (hmore : (Lit.int .i64 more).wf = true) (hcut : (Lit.int .i64 cut).wf = true) :
    Calls Try.prog 7 #[.slice A n c, .slice A' n' c', .int .i64 more, .int .i64 cut] w fun e w' => e = .returned (.bool true) ∧ Below w.heap.size w w' := by
  obtain ⟨hr, hnc, hcc⟩ := hb
  obtain ⟨hr', hnc', hcc'⟩ := hb'
  have hbd : -9223372036854775808 ≤ more ∧ more < 9223372036854775808 := by
    simp [Lit.wf, IntKind.min, IntKind.max, IntKind.signed, IntKind.bits] at hmore
    omega
  have hbd2 : -9223372036854775808 ≤ cut ∧ cut < 9223372036854775808 := by
    simp [Lit.wf, IntKind.min, IntKind.max, IntKind.signed, IntKind.bits] at hcut
    omega
  clear hmore hcut
  have H8 := Lib.hid heads08_any
  by_cases a0 : 64 < n
  · have e0 : (64 : Int) < (n : Int) := by omega
    clear a0
    clear hr hr'
    go_enter Try.func7, Try.ntmps7
    go_wp2_with fail
    refine (H8.out _).mono ?_
    rintro e w7 ⟨rfl, hb7⟩
    have B7 := Lib.hid hb7
    clear hb7
    go_wp2_with fail
    go_ret
    exact ⟨rfl, B7.out⟩
  have e0 : ¬ (64 : Int) < (n : Int) := by omega
  by_cases a1 : more < 0
  · skip
    clear hr hr'
    go_enter Try.func7, Try.ntmps7
    go_wp2_with fail
    refine (H8.out _).mono ?_
    rintro e w7 ⟨rfl, hb7⟩
    have B7 := Lib.hid hb7
    clear hb7
    go_wp2_with fail
    go_ret
    exact ⟨rfl, B7.out⟩
  by_cases a2 : 64 - (n : Int) < more
  · skip
    clear hr hr'
    go_enter Try.func7, Try.ntmps7
    go_wp2_with fail
    refine (H8.out _).mono ?_
    rintro e w7 ⟨rfl, hb7⟩
    have B7 := Lib.hid hb7
    clear hb7
    go_wp2_with fail
    go_ret
    exact ⟨rfl, B7.out⟩
  by_cases a3 : cut < 0
  · skip
    clear hr hr'
    go_enter Try.func7, Try.ntmps7
    go_wp2_with fail
    refine (H8.out _).mono ?_
    rintro e w7 ⟨rfl, hb7⟩
    have B7 := Lib.hid hb7
    clear hb7
    go_wp2_with fail
    go_ret
    exact ⟨rfl, B7.out⟩
  by_cases a4 : (n' : Int) < cut
  · skip
    clear hr hr'
    go_enter Try.func7, Try.ntmps7
    go_wp2_with fail
    refine (H8.out _).mono ?_
    rintro e w7 ⟨rfl, hb7⟩
    have B7 := Lib.hid hb7
    clear hb7
    go_wp2_with fail
    go_ret
    exact ⟨rfl, B7.out⟩
  by_cases a5 : 2000 < n'
  · have e5 : (2000 : Int) < (n' : Int) := by omega
    clear a5
    clear hr hr'
    go_enter Try.func7, Try.ntmps7
    go_wp2_with fail
    refine (H8.out _).mono ?_
    rintro e w7 ⟨rfl, hb7⟩
    have B7 := Lib.hid hb7
    clear hb7
    go_wp2_with fail
    go_ret
    exact ⟨rfl, B7.out⟩
  have e5 : ¬ (2000 : Int) < (n' : Int) := by omega
  obtain ⟨m, rfl⟩ := Int.eq_ofNat_of_zero_le (by omega : 0 ≤ more)
  obtain ⟨q, rfl⟩ := Int.eq_ofNat_of_zero_le (by omega : 0 ≤ cut)
  have hn : n ≤ 64 := by omega
  have hn' : n' ≤ 2000 := by omega
  have hq : q ≤ n' := by omega
  have hm : n + m ≤ 64 := by omega
  clear a0 a5 hbd hbd2
  have hkl := hr.1
  have htl := hr'.1
  obtain ⟨A1, c1, s1, k1, k1', r1⟩ := cut_h (P := Try.prog) 22 5 rfl size_u8 c' hr' (q : Int) q rfl hq hnc'
  obtain ⟨A2, c2, s2, k2, k2', r2⟩ := cut_l (P := Try.prog) 22 5 rfl size_u8 c' hr' (q : Int) q rfl hq hnc'
  have HR := Lib.hid hr
  have HR' := Lib.hid hr'
  have R1 := Lib.hid r1
  have R2 := Lib.hid r2
  have HKL := Lib.hid hkl
  have HTL := Lib.hid htl
  have ho0 : Ob (w.alloc (.cells #[] 5)) w.heap.size 5 (.slice (some ⟨w.heap.size, 0, none⟩) 0 0) [] := Ob.lit w [] #[] rfl (Nat.le_refl _) 0 rfl (by decide)
  have HO0 := Lib.hid ho0
  have HB0 := Lib.hid ((Below.refl w.heap.size w).alloc (Nat.le_refl _) (.cells #[] 5))
  have LB0 : Hid ((([] : List UInt8)).length + n ≤ 140737488355328) := by show _ ≤ _; rw [List.length_nil]; omega
  have LB1 : Hid ((([] : List UInt8) ++ k).length + m ≤ 140737488355328) := by show _ ≤ _; rw [List.nil_append, HKL.out]; omega
  have LK : Hid ((([] : List UInt8) ++ k ++ List.replicate m 0).length = n + m) := by show _ = _; rw [List.nil_append, List.length_append, List.length_replicate, HKL.out]
  have LT : Hid (tagL (([] : List UInt8) ++ k ++ List.replicate m 0) t = tagL k t) := by show _ = _; rw [List.nil_append]; exact tagL_noughts k t m (by rw [HKL.out]; exact hm)
  have LC : Hid (t.take q ++ t.drop q = t) := List.take_append_drop q t
  have LZ : Hid ((t.take q ++ t.drop q).length ≤ 274877906944) := by show _ ≤ _; rw [LC.out, HTL.out]; omega
  clear hr hr' r1 r2 hkl htl ho0
  go_enter Try.func7, Try.ntmps7
  go_wp2_with (first
    | (at_builtin; refine wpList_appB rfl (.tmp 41) (.tmp 42) 22 rfl w.heap.size 5 Try.underlying22 info_u8 _ [] rfl HO0.out _ A n c k rfl (HR.out.alloc (Nat.le_refl _) _) LB0.out (le_alloc _ _) ?_; intro v1 w1 ho1 hb1; have O1 := Lib.hid ho1; have B1 := Lib.hid (HB0.out.trans hb1); clear ho1 hb1)
    | (at_builtin; refine wpList_mk rfl (.tmp 43) (.tmp 44) 22 3 rfl w.heap.size 5 Try.underlying22 Try.underlying3 info_u8 _ _ rfl O1.out m rfl LB1.out B1.out.size ?_; intro v2 w2 ho2 hb2; obtain ⟨D2, d2, rfl, hd2, hm2, hr2⟩ := Ob.rd_n ho2 LK.out; have R22 := Lib.hid hr2; have B2 := Lib.hid (B1.out.trans hb2); clear ho2 hb2 hr2)
    | fail)
  refine (tag1_any A A' n c n' c' k t w2 ((HR.out.below B2.out).more B2.out.size) hnc (by omega) (by omega) ((HR'.out.below B2.out).more B2.out.size) hnc' (by omega) (by omega)).mono ?_
  rintro e w3 ⟨v3, rfl, ho3, hb3⟩
  obtain ⟨D3, d3, rfl, -, -, hr3⟩ := Ob.rd_n ho3 (tagL_length k t)
  have R33 := Lib.hid hr3
  have B23 : Hid (Below w2.heap.size w2 w3) := ((Below.refl _ w2).alloc (Nat.le_refl _) _).trans (hb3.mono (by simp))
  have B3 := Lib.hid (B2.out.trans (B23.out.mono B2.out.size))
  have R23 := Lib.hid (R22.out.below B23.out)
  clear ho3 hb3 hr3
  go_wp2_with fail
  have ct1 := tag1_any D2 A' (n + m) d2 n' c' _ t w3.drew ((R23.out.more B23.out.size).drew) hd2 (by unfold maxLen at hm2; omega) (by omega) (((HR'.out.below B3.out).more B3.out.size).drew) hnc' (by omega) (by omega)
  rw [LT.out] at ct1
  have CT1 := Lib.hid (show Calls Try.prog 11 #[.slice D2 (n + m) d2, .slice (some ⟨w3.heap.size, 0, none⟩) 1 1] (w3.alloc (.cells #[.slice A' n' c'] 22)).drew (GivesO 5 (tagL k t) (w3.alloc (.cells #[.slice A' n' c'] 22)).drew) from ct1)
  clear ct1
  go_region_held3 (fun _ => True)
    (first | exact trivial | fail)
    (first
    | (go_at_call 11; have _g := B4; refine (tag2_any A A1 A2 n c q c1 (n' - q) c2 k _ _ w4 ((HR.out.below B4.out).more B4.out.size) hnc (by omega) (by omega) ⟨(R1.out.below B4.out).more B4.out.size, k1, by omega⟩ ⟨(R2.out.below B4.out).more B4.out.size, k2, by omega⟩ LZ.out).mono ?_; rintro e w5 ⟨v5, rfl, ho5, hb5⟩; rw [LC.out] at ho5; obtain ⟨D5, d5, rfl, hd5, hm5, hr5⟩ := Ob.rd_n ho5 (tagL_length k t); have R55 := Lib.hid hr5; have B45 : Hid (Below w4.heap.size w4 w5) := ((Below.refl _ w4).alloc (Nat.le_refl _) _).trans (hb5.mono (by simp)); have R35 := Lib.hid (R34.out.below B45.out); have B5 := Lib.hid (B4.out.trans (B45.out.mono B4.out.size)); clear ho5 hb5 hr5)
    | (go_at_call 11; refine CT1.out.mono ?_; rintro e w4 ⟨v4, rfl, ho4, hb4⟩; obtain ⟨D4, d4, rfl, hd4, hm4, hr4⟩ := Ob.rd_n ho4 (tagL_length k t); have R44 := Lib.hid hr4; have B34 : Hid (Below w3.heap.size w3 w4) := (((Below.refl _ w3).alloc (Nat.le_refl _) _).drew).trans (hb4.mono (by show _ ≤ (w3.alloc _).heap.size; simp)); have R34 := Lib.hid ((R33.out.below B34.out).more B34.out.size); have B4 := Lib.hid (B3.out.trans (B34.out.mono B3.out.size)); clear ho4 hb4 hr4)
    | (go_at_call 10; have _g := B5; refine (same_true D5 D3 32 d5 32 d3 _ _ (tagL k t) w5 R55.out R35.out).mono ?_; rintro e w5' ⟨rfl, rfl⟩)
    | (go_at_call 10; refine (same_true D4 D3 32 d4 32 d3 _ _ (tagL k t) w4 R44.out R34.out).mono ?_; rintro e w4' ⟨rfl, rfl⟩)
    | (go_at_call 8; refine (H8.out _).mono ?_; rintro e w6 ⟨rfl, hb6⟩; have B6 := Lib.hid hb6; clear hb6)
    | fail)
  go_wp2_with fail
  go_ret
  exact ⟨rfl, B5.out.trans (B6.out.mono B5.out.size)⟩
end Go.Proofs.Ytllodapnbdbpeaa
