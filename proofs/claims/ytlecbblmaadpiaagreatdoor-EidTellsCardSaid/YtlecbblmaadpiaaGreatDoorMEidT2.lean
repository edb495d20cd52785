/- What speltNumbers and spelt of layer 4 return: the one endpoint whose text this could be. -/
import Derived.Test.YtlecbblmaadpiaaGreatDoorMEidI2
import Derived.Test.YtlecbblmaadpiaaGreatDoorMEidI3
namespace Go.Proofs.YtlecbblmaadpiaaGreatDoor
open Go.RowKit
open Go.Lib (decDigits)
def Could (l : List UInt8) (o : Option Epd) : Prop := ∀ e, checkB e = true → textE e = l → o = some e
theorem could_dtn {l : List UInt8} (hne : l ≠ noneL) : Could (dtnL ++ l) (some ⟨1, l, 0, 0⟩) := by
  intro e hc ht
  by_cases h1 : e.scheme = 1
  · obtain ⟨h2, h3, -⟩ := check_dtn hc h1
    by_cases hn : e.name = []
    · rw [textE_none hc h1 hn] at ht
      have := List.append_cancel_left ht
      exact absurd this.symm hne
    · rw [textE_dtn hc h1 hn] at ht
      have := List.append_cancel_left ht
      congr 1
      exact epd_ext h1.symm this.symm h2.symm h3.symm
  · obtain ⟨h2, -⟩ := check_ipn hc h1
    rw [textE_ipn hc h2] at ht
    simp [dtnL, ipnL] at ht
theorem could_none : Could (dtnL ++ noneL) (some ⟨1, [], 0, 0⟩) := by
  intro e hc ht
  by_cases h1 : e.scheme = 1
  · obtain ⟨h2, h3, h4⟩ := check_dtn hc h1
    by_cases hn : e.name = []
    · congr 1
      exact epd_ext h1.symm hn.symm h2.symm h3.symm
    · rw [textE_dtn hc h1 hn] at ht
      have h5 := List.append_cancel_left ht
      rcases h4 with h | h
      · exact absurd h hn
      · obtain ⟨r, hr, -⟩ := name_head h
        rw [hr] at h5
        simp [noneL] at h5
  · obtain ⟨h2, -⟩ := check_ipn hc h1
    rw [textE_ipn hc h2] at ht
    simp [dtnL, ipnL] at ht
theorem text_head {e : Epd} (hc : checkB e = true) : Lib.hasPrefix (textE e) dtnL = true ∨ Lib.hasPrefix (textE e) ipnL = true := by
  by_cases h1 : e.scheme = 1
  · left
    by_cases hn : e.name = []
    · rw [textE_none hc h1 hn]; rfl
    · rw [textE_dtn hc h1 hn]; simp [Lib.hasPrefix, dtnL, List.isPrefixOf]
  · right
    obtain ⟨h2, -⟩ := check_ipn hc h1
    rw [textE_ipn hc h2]
    simp [Lib.hasPrefix, ipnL, List.isPrefixOf]
theorem prefix_split {l p : List UInt8} (h : Lib.hasPrefix l p = true) : l = p ++ l.drop p.length := by
  have h2 : p <+: l := List.isPrefixOf_iff_prefix.1 h
  obtain ⟨t, rfl⟩ := h2
  simp
theorem could_ipn (l : List UInt8) (o : Option Epd) (ho : ∀ n v, n ≤ 4294967295 → v ≤ 4294967295 → l = decDigits n ++ 46 :: decDigits v → o = some ⟨2, [], n, v⟩) : Could (ipnL ++ l) o := by
  intro e hc ht
  by_cases h1 : e.scheme = 1
  · by_cases hn : e.name = []
    · rw [textE_none hc h1 hn] at ht
      simp [dtnL, ipnL] at ht
    · rw [textE_dtn hc h1 hn] at ht
      simp [dtnL, ipnL] at ht
  · obtain ⟨h2, h3, h4, h5, h6⟩ := check_ipn hc h1
    rw [textE_ipn hc h2] at ht
    have := List.append_cancel_left ht
    rw [ho e.node e.service h5 h6 this.symm]
    congr 1
    exact epd_ext h2.symm h3.symm rfl rfl
theorem digits_cut (n v : Nat) : ahead 46 (decDigits n ++ 46 :: decDigits v) = decDigits n ∧ behind 46 (decDigits n ++ 46 :: decDigits v) = decDigits v :=
  ⟨ahead_app _ (dec_no_dot n), (has_app (dec_no_dot n)).2⟩
def Spelt (A : Snt) (l : List UInt8) (w : World) (e : Ending) (w' : World) : Prop := Below w.heap.size w w' ∧
  ((∃ (sc : Int) (s : ByteArray) (n v : Nat), e = .returned (.tuple #[epdV sc s n v, .nilIface]) ∧ (sc = 1 ∨ sc = 2) ∧ s.size ≤ l.length ∧ n < 18446744073709551616 ∧ v < 18446744073709551616 ∧ Could l (some (ep sc s n v))) ∨
   (∃ a, OneOf A a ∧ e = .returned (.tuple #[epdV 0 ⟨#[]⟩ 0 0, snt a]) ∧ Could l none))
theorem zeroE {w W' : World} {g : Nat} (hg : g = w.heap.size) (h : Below (g + 1) (w.alloc (.cells #[.int .i64 0, .string ⟨#[]⟩, .int .u64 0, .int .u64 0] 25)) W') :
    (W'.cell? ⟨g, 0, none⟩ = some (.int .i64 0) ∧ W'.cell? ⟨g, 1, none⟩ = some (.string ⟨#[]⟩) ∧ W'.cell? ⟨g, 2, none⟩ = some (.int .u64 0) ∧ W'.cell? ⟨g, 3, none⟩ = some (.int .u64 0)) ∧
    (W'.frozen? ⟨g, 0, none⟩ = false ∧ W'.frozen? ⟨g, 1, none⟩ = false ∧ W'.frozen? ⟨g, 2, none⟩ = false ∧ W'.frozen? ⟨g, 3, none⟩ = false) := by
  subst hg
  exact ⟨box_cells4 (h.mono (by simp)), (h.frozen (p := ⟨w.heap.size, 0, none⟩) (Nat.lt_succ_self _)).trans (by simp), (h.frozen (p := ⟨w.heap.size, 1, none⟩) (Nat.lt_succ_self _)).trans (by simp), (h.frozen (p := ⟨w.heap.size, 2, none⟩) (Nat.lt_succ_self _)).trans (by simp), (h.frozen (p := ⟨w.heap.size, 3, none⟩) (Nat.lt_succ_self _)).trans (by simp)⟩
theorem below_put4 {B g : Nat} {w W' : World} {u0 u1 u2 u3 : Value} (h : Below B w W') (hg : B ≤ g) : Below B w ((((W'.setCell ⟨g, 0, none⟩ u0).setCell ⟨g, 1, none⟩ u1).setCell ⟨g, 2, none⟩ u2).setCell ⟨g, 3, none⟩ u3) :=
  (((h.setCell (p := ⟨g, 0, none⟩) hg _).setCell (p := ⟨g, 1, none⟩) hg _).setCell (p := ⟨g, 2, none⟩) hg _).setCell (p := ⟨g, 3, none⟩) hg _
set_option maxRecDepth 100000 in
set_option maxHeartbeats 2000000 in
theorem speltn_any (A : Snt) (s : ByteArray) (w : World) (hA : Lds A w) (hs : s.size ≤ 140737488355328) :
    Calls Tryz.prog 157 #[.string s] w (Spelt A (ipnL ++ s.data.toList) w) := by
  have C1 := Lib.hid (fun W => cut_any s 46 W hs)
  unfold cutV at C1
  have ha := ahead_le 46 s.data.toList
  have hb : (behind 46 s.data.toList).length ≤ s.data.toList.length := by unfold behind; rw [List.length_drop]; omega
  have hsl := Lib.size_eq s
  have ea : (⟨(ahead 46 s.data.toList).toArray⟩ : ByteArray).data.toList = ahead 46 s.data.toList := by simp
  have eb : (⟨(behind 46 s.data.toList).toArray⟩ : ByteArray).data.toList = behind 46 s.data.toList := by simp
  have CP := Lib.hid (fun (x : ByteArray) (W : World) (hx : x.size ≤ 281474976710656) (hw : Lds A W) => by
    obtain ⟨t5, p5, h5⟩ := hw.y
    obtain ⟨t6, p6, h6⟩ := hw.z
    exact Tryz.puint_any x hx W t5 t6 p5 p6 h5 h6)
  have za : (⟨(ahead 46 s.data.toList).toArray⟩ : ByteArray).size ≤ 281474976710656 := by rw [Lib.size_eq, ea]; omega
  have zb : (⟨(behind 46 s.data.toList).toArray⟩ : ByteArray).size ≤ 281474976710656 := by rw [Lib.size_eq, eb]; omega
  have HZA := Lib.hid za
  have HZB := Lib.hid zb
  have HEA := Lib.hid ea
  have HEB := Lib.hid eb
  have HA := Lib.hid hA
  obtain ⟨L, hL⟩ : ∃ L, L = s.data.toList := ⟨_, rfl⟩
  have KA := Lib.hid (show ∀ n v : Nat, n ≤ 4294967295 → L = decDigits n ++ 46 :: decDigits v → Lib.parseUintB 32 (⟨(ahead 46 s.data.toList).toArray⟩ : ByteArray).data.toList = .ok n from fun n v hn e => by rw [ea, ← hL, e, (digits_cut n v).1]; exact parse32 n hn)
  have KB := Lib.hid (show ∀ n v : Nat, v ≤ 4294967295 → L = decDigits n ++ 46 :: decDigits v → Lib.parseUintB 32 (⟨(behind 46 s.data.toList).toArray⟩ : ByteArray).data.toList = .ok v from fun n v hn e => by rw [eb, ← hL, e, (digits_cut n v).2]; exact parse32 v hn)
  have HNG : Hid (¬ w.heap.size = 2) := Nat.ne_of_gt (World.block_lt_of_cell? w _ hA.cu)
  rw [← hL]
  generalize (⟨(ahead 46 s.data.toList).toArray⟩ : ByteArray) = xa at *
  generalize (⟨(behind 46 s.data.toList).toArray⟩ : ByteArray) = xb at *
  generalize hasB 46 s.data.toList = hh at *
  have q1 := fun (W : World) (u : TypeId) (x : Value) => run_neq_iface_nil (P := Tryz.prog) (w := W) 95 (by kernel_rfl) u x
  clear hA ha hb hsl ea eb za zb hL
  go_enter Tryz.func157, Tryz.ntmps157
  go_wp2_with fail
  refine (C1.out _).mono ?_
  rintro e w1 ⟨rfl, m, rfl⟩
  have B1 : Hid (Below (w.heap.size + 1) (w.alloc (.cells #[.int .i64 0, .string ⟨#[]⟩, .int .u64 0, .int .u64 0] 25)) ((w.alloc (.cells #[.int .i64 0, .string ⟨#[]⟩, .int .u64 0, .int .u64 0] 25)).drewN m)) := drewN_below m
  have HW0 : Hid (w.heap.size + 1 ≤ ((w.alloc (.cells #[.int .i64 0, .string ⟨#[]⟩, .int .u64 0, .int .u64 0] 25)).drewN m).heap.size) := by show _ ≤ _; show _ ≤ (w.alloc _).heap.size; simp
  have HB0 : Hid (Below w.heap.size w (w.alloc (.cells #[.int .i64 0, .string ⟨#[]⟩, .int .u64 0, .int .u64 0] 25))) := (Below.refl _ _).alloc (Nat.le_refl _) _
  have HL1 := Lib.hid (HA.out.below (HB0.out.trans (B1.out.mono (Nat.le_succ _))) (Nat.le_refl _))
  go_wp2_with fail
  refine (CP.out xa _ HZA.out HL1.out).mono ?_
  rintro e w2 ⟨hb, hcase⟩
  have B2 := Lib.hid (B1.out.trans (hb.mono HW0.out))
  have HL2 := Lib.hid (HL1.out.below hb (Nat.le_refl _))
  have HW2 := Lib.hid (Nat.le_trans HW0.out hb.size)
  clear hb
  obtain ⟨⟨z0, z1, z2, z3⟩, f0, f1, f2, f3⟩ := zeroE (g := w.heap.size) rfl B2.out
  have gu := HL2.out.cu
  unfold snt at gu
  obtain ⟨u1, hu1, rfl⟩ | ⟨hno, z, t, q, rfl⟩ := hcase
  · have HU1 := Lib.hid hu1
    clear hu1 gu z0 z1 z2 z3 f0 f1 f2 f3
    go_wp2_with fail
    refine (CP.out xb _ HZB.out HL2.out).mono ?_
    rintro e w3 ⟨hb, hcase⟩
    have B3 := Lib.hid (B2.out.trans (hb.mono HW2.out))
    have HL3 := Lib.hid (HL2.out.below hb (Nat.le_refl _))
    clear hb
    obtain ⟨⟨z0, z1, z2, z3⟩, f0, f1, f2, f3⟩ := zeroE (g := w.heap.size) rfl B3.out
    have gu := HL3.out.cu
    unfold snt at gu
    obtain ⟨u2, hu2, rfl⟩ | ⟨hno, z, t, q, rfl⟩ := hcase
    · have HU2 := Lib.hid hu2
      clear hu2 gu
      go_wp2_with fail
      refine bodyPost_ret (v := .tuple #[.agg #[.int .i64 2, .string ⟨#[]⟩, .int .u64 (u1 : Int), .int .u64 (u2 : Int)], .nilIface]) (by simp [results, Tryz.results157, go_sem, z0, z1, z2, z3]) rfl ⟨below_put4 (HB0.out.trans (B3.out.mono (Nat.le_succ _))) (Nat.le_refl _), .inl ⟨2, ⟨#[]⟩, u1, u2, rfl, .inr rfl, Nat.zero_le _, ?_, ?_, could_ipn _ _ (fun n v hn hv e => ?_)⟩⟩
      · have := parse32_le HU1.out; omega
      · have := parse32_le HU2.out; omega
      · have k1 := (KA.out n v hn e).symm.trans HU1.out
        have k2 := (KB.out n v hv e).symm.trans HU2.out
        injection k1 with k1
        injection k2 with k2
        rw [k1, k2]
        rfl
    · have HNO := Lib.hid hno
      have gv := (World.cell?_setCell_far w3 ⟨w.heap.size, 0, none⟩ ⟨2, 0, none⟩ (.int .i64 0) HNG.out).trans gu
      clear hno
      go_wp2_with fail
      go_region
      go_wp2_with fail
      refine bodyPost_ret (v := .tuple #[.agg #[.int .i64 0, .string ⟨#[]⟩, .int .u64 0, .int .u64 0], snt A.u]) (by simp [results, Tryz.results157, go_sem, z0, z1, z2, z3, snt]) rfl ⟨below_put4 (HB0.out.trans ((B3.out.drew).mono (Nat.le_succ _))) (Nat.le_refl _), .inr ⟨A.u, .inr (.inr (.inl rfl)), rfl, could_ipn _ _ (fun n v hn hv e => absurd (KB.out n v hv e) (HNO.out v))⟩⟩
  · have HNO := Lib.hid hno
    have gv := (World.cell?_setCell_far w2 ⟨w.heap.size, 0, none⟩ ⟨2, 0, none⟩ (.int .i64 0) HNG.out).trans gu
    clear hno
    go_wp2_with fail
    go_region
    go_wp2_with fail
    refine bodyPost_ret (v := .tuple #[.agg #[.int .i64 0, .string ⟨#[]⟩, .int .u64 0, .int .u64 0], snt A.u]) (by simp [results, Tryz.results157, go_sem, z0, z1, z2, z3, snt]) rfl ⟨below_put4 (HB0.out.trans ((B2.out.drew).mono (Nat.le_succ _))) (Nat.le_refl _), .inr ⟨A.u, .inr (.inr (.inl rfl)), rfl, could_ipn _ _ (fun n v hn hv e => absurd (KA.out n v hn e) (HNO.out n))⟩⟩
end Go.Proofs.YtlecbblmaadpiaaGreatDoor
/- What spelt, parsed and Parse of layer 4 return. -/
namespace Go.Proofs.YtlecbblmaadpiaaGreatDoor
open Go.RowKit
set_option maxRecDepth 100000 in
set_option maxHeartbeats 1000000 in
theorem sclone_any (s : ByteArray) (w : World) (hs : s.size ≤ 140737488355328) :
    Calls Tryz.prog 156 #[.string s] w fun e w' => e = .returned (.string s) ∧ Below w.heap.size w w' := by
  have C1 := Lib.hid (Tryz.stringslite_Clone s w (by omega))
  go_enter Tryz.func156, Tryz.ntmps156
  go_wp2_with fail
  refine C1.out.mono ?_
  rintro e w1 ⟨rfl, hb⟩
  have HB := Lib.hid hb
  clear hb
  go_wp2_with fail
  go_ret
  exact ⟨rfl, HB.out⟩
theorem str_ne {s : ByteArray} {l : List UInt8} (h : s.data.toList ≠ l) : (s.toList == l) = false ∧ (l == s.toList) = false := by
  rw [Lib.toList_data]
  exact ⟨beq_eq_false_iff_ne.2 h, beq_eq_false_iff_ne.2 (fun e => h e.symm)⟩
set_option maxRecDepth 100000 in
set_option maxHeartbeats 2000000 in
theorem spelt_any (A : Snt) (s : ByteArray) (w : World) (hA : Lds A w) (hs : s.size ≤ 140737488355328) :
    Calls Tryz.prog 122 #[.string s] w (Spelt A s.data.toList w) := by
  have HB0 : Hid (Below w.heap.size w (w.alloc (.cells #[.int .i64 0, .string ⟨#[]⟩, .int .u64 0, .int .u64 0] 25))) := (Below.refl _ _).alloc (Nat.le_refl _) _
  have hA1 := hA.alloc (.cells #[.int .i64 0, .string ⟨#[]⟩, .int .u64 0, .int .u64 0] 25)
  have HA := Lib.hid hA1
  have gs := hA1.cs
  have HNG : Hid (¬ w.heap.size = 0) := Nat.ne_of_gt (World.block_lt_of_cell? w _ hA.cs)
  unfold snt at gs
  clear hA hA1
  have ZE := zeroE (g := w.heap.size) rfl (Below.refl (w.heap.size + 1) (w.alloc (.cells #[.int .i64 0, .string ⟨#[]⟩, .int .u64 0, .int .u64 0] 25)))
  by_cases hnn : s.data.toList = dtnL ++ noneL
  · have es : s = strL (dtnL ++ noneL) := by rw [← hnn]; exact (strL_data s).symm
    have es2 : s = ⟨#[100, 116, 110, 58, 110, 111, 110, 101]⟩ := es
    have HC := Lib.hid could_none
    rw [hnn]
    subst es2
    clear hnn es gs HA hs
    obtain ⟨⟨z0, z1, z2, z3⟩, f0, f1, f2, f3⟩ := ZE
    go_enter Tryz.func122, Tryz.ntmps122
    go_wp2_with fail
    refine bodyPost_ret (v := .tuple #[.agg #[.int .i64 1, .string ⟨#[]⟩, .int .u64 0, .int .u64 0], .nilIface]) (by simp [results, Tryz.results122, go_sem]) rfl ⟨?_, .inl ⟨1, ⟨#[]⟩, 0, 0, rfl, .inl rfl, Nat.zero_le _, by decide, by decide, HC.out⟩⟩
    first | exact (Below.refl _ _).alloc (Nat.le_refl _) _ | exact below_put4 HB0.out (Nat.le_refl _)
  obtain ⟨hne1, hne2⟩ := str_ne (s := s) (l := [100, 116, 110, 58, 110, 111, 110, 101]) hnn
  have C1 := Lib.hid (fun W => Tryz.strings_CutPrefix s ⟨#[100, 116, 110, 58]⟩ W)
  have C2 := Lib.hid (fun W => Tryz.strings_CutPrefix s ⟨#[105, 112, 110, 58]⟩ W)
  rw [show (⟨#[100, 116, 110, 58]⟩ : ByteArray).data.toList = dtnL from rfl] at C1
  rw [show (⟨#[105, 112, 110, 58]⟩ : ByteArray).data.toList = ipnL from rfl] at C2
  have hsl := Lib.size_eq s
  by_cases hp : Lib.hasPrefix s.data.toList dtnL = true
  · have hsp : s.data.toList = dtnL ++ s.data.toList.drop 4 := prefix_split hp
    have et : Lib.trimPrefix s.data.toList dtnL = s.data.toList.drop 4 := by unfold Lib.trimPrefix; rw [if_pos hp]; rfl
    rw [hp, et] at C1
    have hrl : (s.data.toList.drop 4).length ≤ s.data.toList.length := by rw [List.length_drop]; omega
    generalize s.data.toList.drop 4 = r at *
    have HC := Lib.hid (could_dtn (l := r) (fun e => hnn (by rw [hsp, e])))
    rw [← hsp] at HC
    have er : (⟨r.toArray⟩ : ByteArray).data.toList = r := by simp
    have hrs : (⟨r.toArray⟩ : ByteArray).size ≤ 140737488355328 := by rw [Lib.size_eq, er]; omega
    have HRS : Hid ((⟨r.toArray⟩ : ByteArray).size ≤ s.data.toList.length) := by show _ ≤ _; rw [Lib.size_eq, er]; exact hrl
    have C3 := Lib.hid (fun W => sclone_any ⟨r.toArray⟩ W hrs)
    have HC2 : Hid (Could s.data.toList (some (ep 1 ⟨r.toArray⟩ 0 0))) := by show Could _ _; unfold ep; rw [er]; exact HC.out
    clear hp et hrl hsl hsp er hrs HC gs HA
    generalize (⟨r.toArray⟩ : ByteArray) = R at *
    generalize s.data.toList = L at *
    obtain ⟨⟨z0, z1, z2, z3⟩, f0, f1, f2, f3⟩ := ZE
    go_enter Tryz.func122, Tryz.ntmps122
    go_wp2_with fail
    refine (C1.out _).mono ?_
    rintro e w1 ⟨rfl, rfl⟩
    go_wp2_with fail
    refine (C3.out _).mono ?_
    rintro e w2 ⟨rfl, hb⟩
    have hb' := hb.mono (show w.heap.size + 1 ≤ _ by simp)
    have HB2 := Lib.hid hb'
    clear hb hb' z0 z1 z2 z3 f0 f1 f2 f3
    obtain ⟨⟨z0, z1, z2, z3⟩, f0, f1, f2, f3⟩ := zeroE (g := w.heap.size) rfl HB2.out
    go_wp2_with fail
    refine bodyPost_ret (v := .tuple #[.agg #[.int .i64 1, .string R, .int .u64 0, .int .u64 0], .nilIface]) (by simp [results, Tryz.results122, go_sem, z0, z1, z2, z3]) rfl ⟨below_put4 (HB0.out.trans (HB2.out.mono (Nat.le_succ _))) (Nat.le_refl _), .inl ⟨1, R, 0, 0, rfl, .inl rfl, HRS.out, by decide, by decide, HC2.out⟩⟩
  · have hp' := hp
    rw [Bool.not_eq_true] at hp'
    rw [hp'] at C1
    by_cases hq : Lib.hasPrefix s.data.toList ipnL = true
    · have hsp : s.data.toList = ipnL ++ s.data.toList.drop 4 := prefix_split hq
      have et : Lib.trimPrefix s.data.toList ipnL = s.data.toList.drop 4 := by unfold Lib.trimPrefix; rw [if_pos hq]; rfl
      rw [hq, et] at C2
      have hrl : (s.data.toList.drop 4).length ≤ s.data.toList.length := by rw [List.length_drop]; omega
      generalize s.data.toList.drop 4 = r at *
      have er : (⟨r.toArray⟩ : ByteArray).data.toList = r := by simp
      have hrs : (⟨r.toArray⟩ : ByteArray).size ≤ 140737488355328 := by rw [Lib.size_eq, er]; omega
      have HRS : Hid ((⟨r.toArray⟩ : ByteArray).size ≤ s.data.toList.length) := by show _ ≤ _; rw [Lib.size_eq, er]; exact hrl
      have C3 := Lib.hid (fun W (h : Lds A W) => speltn_any A ⟨r.toArray⟩ W h hrs)
      rw [er, ← hsp] at C3
      clear hp hp' hq et hrl hsl hsp er hrs gs
      generalize (⟨r.toArray⟩ : ByteArray) = R at *
      generalize (⟨(Lib.trimPrefix s.data.toList dtnL).toArray⟩ : ByteArray) = R0 at *
      generalize s.data.toList = L at *
      obtain ⟨⟨z0, z1, z2, z3⟩, f0, f1, f2, f3⟩ := ZE
      go_enter Tryz.func122, Tryz.ntmps122
      go_wp2_with fail
      refine (C1.out _).mono ?_
      rintro e w1 ⟨rfl, rfl⟩
      go_wp2_with fail
      refine (C2.out _).mono ?_
      rintro e w1 ⟨rfl, rfl⟩
      go_wp2_with fail
      refine (C3.out _ HA.out).mono ?_
      rintro e w2 ⟨hb, hcase⟩
      have hb' := hb.mono (show w.heap.size + 1 ≤ _ by simp)
      have HB2 := Lib.hid hb'
      clear hb hb' z0 z1 z2 z3 f0 f1 f2 f3
      obtain ⟨⟨z0, z1, z2, z3⟩, f0, f1, f2, f3⟩ := zeroE (g := w.heap.size) rfl HB2.out
      obtain ⟨sc, x, n, v, rfl, h1, h2, h3, h4, h5⟩ | ⟨a, ha, rfl, h5⟩ := hcase
      · have H := Lib.hid (And.intro h1 (And.intro h2 (And.intro h3 (And.intro h4 h5))))
        clear h1 h2 h3 h4 h5
        unfold epdV
        go_wp2_with fail
        refine bodyPost_ret (v := .tuple #[epdV sc x n v, .nilIface]) (by simp [results, Tryz.results122, go_sem, z0, z1, z2, z3, epdV]) rfl ⟨below_put4 (HB0.out.trans (HB2.out.mono (Nat.le_succ _))) (Nat.le_refl _), .inl ⟨sc, x, n, v, rfl, H.out.1, H.out.2.1, H.out.2.2.1, H.out.2.2.2.1, H.out.2.2.2.2⟩⟩
      · have H := Lib.hid (And.intro ha h5)
        clear ha h5
        unfold epdV snt
        go_wp2_with fail
        refine bodyPost_ret (v := .tuple #[epdV 0 ⟨#[]⟩ 0 0, snt a]) (by simp [results, Tryz.results122, go_sem, z0, z1, z2, z3, epdV, snt]) rfl ⟨below_put4 (HB0.out.trans (HB2.out.mono (Nat.le_succ _))) (Nat.le_refl _), .inr ⟨a, H.out.1, rfl, H.out.2⟩⟩
    · have hq' := hq
      rw [Bool.not_eq_true] at hq'
      rw [hq'] at C2
      have HC : Hid (Could s.data.toList none) := by
        show Could _ _
        intro e hc ht
        rcases text_head hc with h | h
        · rw [ht] at h; exact absurd h hp
        · rw [ht] at h; exact absurd h hq
      clear hp hp' hq hq' hsl
      generalize (⟨(Lib.trimPrefix s.data.toList dtnL).toArray⟩ : ByteArray) = R0 at *
      generalize (⟨(Lib.trimPrefix s.data.toList ipnL).toArray⟩ : ByteArray) = R1 at *
      generalize s.data.toList = L at *
      obtain ⟨⟨z0, z1, z2, z3⟩, f0, f1, f2, f3⟩ := ZE
      have gv := (World.cell?_setCell_far (w.alloc (.cells #[.int .i64 0, .string ⟨#[]⟩, .int .u64 0, .int .u64 0] 25)) ⟨w.heap.size, 0, none⟩ ⟨0, 0, none⟩ (.int .i64 0) HNG.out).trans gs
      go_enter Tryz.func122, Tryz.ntmps122
      go_wp2_with fail
      refine (C1.out _).mono ?_
      rintro e w1 ⟨rfl, rfl⟩
      go_wp2_with fail
      refine (C2.out _).mono ?_
      rintro e w1 ⟨rfl, rfl⟩
      go_wp2_with fail
      go_region
      go_wp2_with fail
      refine bodyPost_ret (v := .tuple #[epdV 0 ⟨#[]⟩ 0 0, snt A.s]) (by simp [results, Tryz.results122, go_sem, z0, z1, z2, z3, epdV, snt]) rfl ⟨?_, .inr ⟨A.s, .inl rfl, rfl, HC.out⟩⟩
      first | exact ((Below.refl _ _).alloc (Nat.le_refl _) _).drew | exact below_put4 HB0.out.drew (Nat.le_refl _) | exact (below_put4 HB0.out (Nat.le_refl _)).drew
end Go.Proofs.YtlecbblmaadpiaaGreatDoor
