/- The code's log: fits, copies. (Made by gen/WcF.py.) -/
import Derived.Test.YtahgaogmcffglaaDoorJWcE
import Derived.Test.YtahgaogmcffglaaDoorJWlG
namespace Go.Proofs.YtahgaogmcffglaaDoor
open Go.RowKit

/-- Why records are not taken where there is so much room. -/
def fitZ (l : List Rcd) (room : Int) : Int := if l.all rokR = true then (if room < (sumL l : Int) then 150 else 0) else 140
theorem fitZ_no {l : List Rcd} {r : Rcd} (room : Int) (h : r ∈ l) (hr : rokR r = false) : fitZ l room = 140 := by
  unfold fitZ
  rw [if_neg]
  intro ha
  rw [List.all_eq_true] at ha
  rw [ha r h] at hr
  cases hr
theorem fitZ_ok {l : List Rcd} (room : Int) (h : ∀ r ∈ l, rokR r = true) : fitZ l room = if room < (sumL l : Int) then 150 else 0 := by
  unfold fitZ
  rw [if_pos (List.all_eq_true.2 h)]
set_option maxRecDepth 100000 in
set_option maxHeartbeats 8000000 in
theorem wfits_any (X : Snt14) (A : Option Addr) (n c B : Nat) (l : List Rcd) (room : Int) (w : World) (hA : Lds14 X w) (h : RwC w B A n l) (hB : B ≤ w.heap.size) (hn : n ≤ 1099511627776) :
    Calls Tryd.prog 40 #[.slice A n c, .int .i64 room] w fun e w' => e = .returned (.int .i64 (fitZ l room)) ∧ Below w.heap.size w w' := by
  have HR := Lib.hid h
  have HBB := Lib.hid hB
  have HN := Lib.hid hn
  have HA := Lib.hid hA
  have HLN : Hid (l.length = n) := h.1
  clear h hB hA
  go_enter Tryd.func40, Tryd.ntmps40
  go_wp2_with fail
  go_loopw [5, 7, 8, 11] (fun v5 v7 v8 v11 wr => ∃ i : Nat, i ≤ n ∧ v5 = .int .i64 (sumL (l.take i) : Int) ∧ v11 = .int .i64 (i : Int) ∧ Hid (Below w.heap.size w wr) ∧ Hid (∀ r ∈ l.take i, rokR r = true)) (fun _ _ _ v11 _ => n - (intOf v11).toNat)
  case atStart => exact ⟨0, Nat.zero_le _, rfl, rfl, Below.refl _ _, fun r hr => absurd hr (by simp)⟩
  case round =>
    obtain ⟨i, hi, rfl, rfl, HW, HO⟩ := hrel
    by_cases hlt : i < n
    · obtain ⟨b, o, rfl, hb, hx⟩ := HR.out.2 (by omega)
      have hil : i < l.length := by rw [HLN.out]; exact hlt
      obtain ⟨Ad, nd, cd, g0, g1, -, g3, g4⟩ := hx.get hil
      obtain ⟨r, hr⟩ : ∃ r, r = l[i]'hil := ⟨_, rfl⟩
      rw [← hr] at g0 g4
      have HRK : Hid (l[i]? = some r) := by show _ = _; rw [hr]; exact List.getElem?_eq_getElem hil
      have hbw : b < w.heap.size := by have := HBB.out; omega
      have x0 := (HW.out.cell (p := ⟨b, o + i * 2, none⟩) hbw).trans g0
      have x1 := (HW.out.cell (p := ⟨b, o + i * 2 + 1, none⟩) hbw).trans g1
      have HI : (i : Int) < (n : Int) := by omega
      have CZ := Lib.hid (fun W (hW : Below w.heap.size w W) => csize_any X r.typ Ad nd cd r.dat W (HA.out.below hW (Nat.le_refl _)) g4.1)
      unfold recV at CZ
      rw [show (⟨r.typ, r.dat⟩ : Rcd) = r from rfl] at CZ
      have HD : Hid (r.dat.length = nd) := g4.1
      have EB : Hid (sumL (l.take i) ≤ 8199 * i) := by
        show _ ≤ _
        have h1 := sumL_bd (l.take i) HO.out
        rw [List.length_take] at h1
        exact Nat.le_trans h1 (Nat.mul_le_mul_left _ (Nat.min_le_left _ _))
      have BX : Hid (Below w.heap.size w (wr.alloc (.cells #[.int .i64 r.typ, .slice Ad nd cd] 35))) := HW.out.alloc HW.out.size _
      clear hb hx g0 g1 g3 g4 hr hil hbw
      cases hrk : rokR r with
      | false =>
        rw [hrk, if_neg (by decide)] at CZ
        have HZ : Hid (fitZ l room = 140) := fitZ_no room (List.mem_of_getElem? HRK.out) hrk
        clear hrk
        go_wp2_with fail
        refine (CZ.out _ BX.out).mono ?_
        rintro e w2 ⟨rfl, hb2⟩
        have B2 := Lib.hid (BX.out.trans (hb2.mono BX.out.size))
        clear hb2 x0 x1
        go_wp2_with fail
        go_ret
        exact ⟨by rw [HZ.out]; rfl, B2.out⟩
      | true =>
        rw [hrk, if_pos rfl] at CZ
        have h8 := (rokR_iff.1 hrk).2.2
        have ES : Hid (sumL (l.take (i + 1)) = sumL (l.take i) + (nd + 7)) := by show _ = _; rw [sumL_take HRK.out, HD.out]
        have HRK2 := Lib.hid hrk
        obtain ⟨S, hS⟩ : ∃ S, S = sumL (l.take i) := ⟨_, rfl⟩
        rw [← hS] at ES EB ⊢
        have hne : (((nd : Int) + 7) == 0) = false := by rw [beq_eq_false_iff_ne]; omega
        have wS : IntKind.i64.wrap ((S : Int) + ((nd : Int) + 7)) = (S : Int) + ((nd : Int) + 7) := by rw [IntKind.wrap_i64]; have := EB.out; have := HN.out; have := HD.out; omega
        have w1 : IntKind.i64.wrap ((i : Int) + 1) = (i : Int) + 1 := by rw [IntKind.wrap_i64]; have := HN.out; omega
        clear hrk h8 hS
        go_wp2_with fail
        refine (CZ.out _ BX.out).mono ?_
        rintro e w2 ⟨rfl, hb2⟩
        have B2 := Lib.hid (BX.out.trans (hb2.mono BX.out.size))
        clear hb2 x0 x1
        go_wp2_with fail
        go_roundw
        case rel =>
          refine ⟨i + 1, by omega, ?_, by go_num, B2.out, fun q hq => ?_⟩
          · rw [ES.out]
            simp [Int.natCast_add]
          · rw [List.take_add_one, HRK.out] at hq
            rcases List.mem_append.1 hq with hq | hq
            · exact HO.out q hq
            · obtain rfl : q = r := by simpa using hq
              exact HRK2.out
        case measure => simp [intOf]; omega
    · have hin : i = n := by omega
      subst hin
      have hlt2 : ¬ (i : Int) < (i : Int) := by omega
      have e : l.take i = l := List.take_of_length_le (by rw [HLN.out]; exact Nat.le_refl _)
      rw [e]
      have HZ : Hid (fitZ l room = if room < (sumL l : Int) then 150 else 0) := fitZ_ok room fun r hr => HO.out r (by rw [e]; exact hr)
      clear e
      obtain ⟨S, hS⟩ : ∃ S, S = sumL l := ⟨_, rfl⟩
      rw [← hS] at HZ ⊢
      clear hS
      by_cases hg : room < (S : Int)
      · rw [if_pos hg] at HZ
        go_wp2_with fail
        go_ret
        exact ⟨by rw [HZ.out]; rfl, HW.out⟩
      · rw [if_neg hg] at HZ
        go_wp2_with fail
        go_ret
        exact ⟨by rw [HZ.out]; rfl, HW.out⟩

/-- A record that make lays. -/
def zQ : QR := (Rcd.zero, none, 0, 0)
theorem flatQ_app (x y : List QR) : flatQ (x ++ y) = flatQ x ++ flatQ y := by simp [flatQ]
theorem flatQ_len (x : List QR) : (flatQ x).length = x.length * 2 := by
  induction x with
  | nil => rfl
  | cons q x ih => simp [flatQ] at ih ⊢; omega
theorem made_recs (n : Nat) : (madeCells (Value.agg #[.int .i64 0, .slice none 0 0]).cells (n * 2)).toList = flatQ (List.replicate n zQ) := by
  have h : ∀ n j, (flatQ (List.replicate n zQ))[j]? = if j < n * 2 then some (if j % 2 = 0 then Value.int .i64 0 else .slice none 0 0) else none := by
    intro n
    induction n with
    | zero => intro j; simp [flatQ]
    | succ n ih =>
      intro j
      have e : flatQ (List.replicate (n + 1) zQ) = .int .i64 0 :: .slice none 0 0 :: flatQ (List.replicate n zQ) := rfl
      rw [e]
      match j with
      | 0 => simp
      | 1 => simp; omega
      | j + 2 =>
        rw [List.getElem?_cons_succ, List.getElem?_cons_succ, ih]
        by_cases hj : j < n * 2
        · rw [if_pos hj, if_pos (show j + 2 < (n + 1) * 2 by omega), show (j + 2) % 2 = j % 2 by omega]
        · rw [if_neg hj, if_neg (show ¬ j + 2 < (n + 1) * 2 by omega)]
  apply List.ext_getElem?
  intro j
  rw [h n j]
  have hz1 : (Value.agg #[.int .i64 0, .slice none 0 0]).cells = #[.int .i64 0, .slice none 0 0] := rfl
  rw [hz1]
  by_cases hj : j < n * 2
  · rw [if_pos hj]
    rcases Nat.mod_two_eq_zero_or_one j with h2 | h2 <;> simp [madeCells, hj, h2]
  · simp [hj, madeCells]
theorem flatQ_set (qs zs : List QR) (q z : QR) : ((flatQ (qs ++ z :: zs)).toArray.setIfInBounds (qs.length * 2) (.int .i64 q.1.typ)).setIfInBounds (qs.length * 2 + 1) (.slice q.2.1 q.2.2.1 q.2.2.2) = (flatQ (qs ++ [q] ++ zs)).toArray := by
  have e1 : flatQ (qs ++ z :: zs) = flatQ qs ++ (.int .i64 z.1.typ :: .slice z.2.1 z.2.2.1 z.2.2.2 :: flatQ zs) := by rw [flatQ_app]; rfl
  have e2 : flatQ (qs ++ [q] ++ zs) = flatQ qs ++ (.int .i64 q.1.typ :: .slice q.2.1 q.2.2.1 q.2.2.2 :: flatQ zs) := by rw [List.append_assoc, flatQ_app]; rfl
  rw [e1, e2, List.setIfInBounds_toArray, List.setIfInBounds_toArray, ← flatQ_len qs, List.set_append_right _ _ (Nat.le_refl _), Nat.sub_self, List.set_cons_zero, List.set_append_right _ _ (Nat.le_add_right _ 1), Nat.add_sub_cancel_left]
  rfl
/-- What copies answers. -/
def CpsR (l : List Rcd) (w : World) (e : Ending) (w' : World) : Prop := Below w.heap.size w w' ∧ ∃ b qs, e = .returned (.slice (some ⟨b, 0, none⟩) l.length l.length) ∧ ScS w' w.heap.size (.slice (some ⟨b, 0, none⟩) l.length l.length) qs ∧ qs.map (·.1) = l
theorem cps_end {w w' : World} {b n : Nat} {qs : List QR} (hn : qs.length = n) (hm : n ≤ 1099511627776) (hb : w.heap.size ≤ b) (hg : w'.heap[b]? = some (.cells (flatQ qs).toArray 35 (0, 0))) (hq : ∀ q ∈ qs, Ob w' w.heap.size 5 (.slice q.2.1 q.2.2.1 q.2.2.2) q.1.dat ∧ q.1.dat.length ≤ 8192) : ScS w' w.heap.size (.slice (some ⟨b, 0, none⟩) n n) qs := by
  subst hn
  refine ⟨⟨flatQ_len qs, .inr ⟨b, qs.length, _, rfl, hb, hg, Nat.le_refl _, by unfold maxLen; omega, by rw [List.size_toArray, flatQ_len], ?_⟩⟩, hq⟩
  rw [List.toList_toArray, List.take_of_length_le (by rw [flatQ_len]; exact Nat.le_refl _)]
set_option maxRecDepth 100000 in
set_option maxHeartbeats 16000000 in
theorem wcopies_any (A : Option Addr) (n c B : Nat) (l : List Rcd) (w : World) (h : RwC w B A n l) (hB : B ≤ w.heap.size) (hn : n ≤ 1099511627776) (hd : ∀ r ∈ l, r.dat.length ≤ 8192) :
    Calls Tryd.prog 47 #[.slice A n c] w (CpsR l w) := by
  have HR := Lib.hid h
  have HBB := Lib.hid hB
  have HN := Lib.hid hn
  have HDS := Lib.hid hd
  have HLN : Hid (l.length = n) := h.1
  clear h hB hd
  obtain ⟨i0, hi0, hzz⟩ := Option.map_eq_some_iff.1 info_rec14
  simp only [Prod.mk.injEq] at hzz
  obtain ⟨hz0, hz1, hz2⟩ := hzz
  have HI := Lib.hid (And.intro hi0 (And.intro hz0 (And.intro hz1 hz2)))
  clear hi0 hz0 hz1 hz2
  go_enter Tryd.func47, Tryd.ntmps47
  go_wp2_with (first
    | (refine wpList_make_full _ rfl (.tmp 7) (.tmp 7) 29 rfl w.heap.size 35 i0 (.agg #[.int .i64 0, .slice none 0 0]) 2 Tryd.underlying29 HI.out.1 HI.out.2.1 HI.out.2.2.1 .i64 .i64 _ _ n rfl rfl (by first | rfl | omega | simp) (by first | rfl | omega | simp) (by rw [HI.out.2.2.2]; have := HN.out; omega) (by have := HN.out; unfold maxLen; omega) (Nat.le_refl _) ?_; intro w1 ho1 hg1; have O1 := Lib.hid (And.intro ho1 hg1); clear ho1 hg1)
    | fail)
  have hob := own_whole13 O1.out.1
  rw [made_recs] at hob
  have G1 := Lib.hid hob
  have B1 : Hid (Below w.heap.size w w1) := ⟨O1.out.2.os, O1.out.2.tape, O1.out.2.output, O1.out.2.size, fun k hk => O1.out.2.block k hk (by simp)⟩
  clear hob O1
  go_loopw [4, 5, 11] (fun v4 v5 v11 wr => ∃ (i : Nat) (qs : List QR), i ≤ n ∧ v11 = .int .i64 (i : Int) ∧ qs.length = i ∧ Hid (wr.heap[w.heap.size]? = some (.cells (flatQ (qs ++ List.replicate (n - i) zQ)).toArray 35 (0, 0))) ∧ Hid (∀ q ∈ qs, Ob wr w.heap.size 5 (.slice q.2.1 q.2.2.1 q.2.2.2) q.1.dat ∧ q.1.dat.length ≤ 8192) ∧ Hid (Below w.heap.size w wr) ∧ Hid (qs.map (·.1) = l.take i)) (fun _ _ v11 _ => n - (intOf v11).toNat)
  case atStart => exact ⟨0, [], Nat.zero_le _, rfl, rfl, by show _ = _; rw [List.nil_append]; exact G1.out, fun q hq => absurd hq (by simp), B1.out, by show _ = _; simp⟩
  case round =>
    obtain ⟨i, qs, hi, rfl, hql, HG, HS, HW, HQ⟩ := hrel
    have HQL := Lib.hid hql
    clear hql
    by_cases hlt : i < n
    · obtain ⟨b, o, rfl, hb, hx⟩ := HR.out.2 (by omega)
      have hil : i < l.length := by rw [HLN.out]; exact hlt
      obtain ⟨Ad, nd, cd, g0, g1, -, g3, g4⟩ := hx.get hil
      obtain ⟨r, hr⟩ : ∃ r, r = l[i]'hil := ⟨_, rfl⟩
      rw [← hr] at g0 g4
      have HRK : Hid (l[i]? = some r) := by show _ = _; rw [hr]; exact List.getElem?_eq_getElem hil
      have hbw : b < w.heap.size := by have := HBB.out; omega
      have x0 := (HW.out.cell (p := ⟨b, o + i * 2, none⟩) hbw).trans g0
      have x1 := (HW.out.cell (p := ⟨b, o + i * 2 + 1, none⟩) hbw).trans g1
      have RX : Hid (∀ W, Below w.heap.size w W → Rd W B Ad nd r.dat) := fun W hW => g4.below (hW.mono HBB.out)
      have HI2 : (i : Int) < (n : Int) := by omega
      have h0i : (0 : Int) ≤ (i : Int) := by omega
      have HD : Hid (r.dat.length = nd) := g4.1
      have H8 : Hid (nd ≤ 8192) := by show _ ≤ _; have := HDS.out r (List.mem_of_getElem? HRK.out); have := HD.out; omega
      have w1' : IntKind.i64.wrap ((i : Int) + 1) = (i : Int) + 1 := by rw [IntKind.wrap_i64]; have := HN.out; omega
      obtain ⟨wb, hwb⟩ : ∃ wb, wb = wr.alloc (.cells #[.int .i64 r.typ, .slice Ad nd cd] 35) := ⟨_, rfl⟩
      have BB : Hid (Below wr.heap.size wr wb) := by show Below _ _ _; rw [hwb]; exact (Below.refl _ _).alloc (Nat.le_refl _) _
      have hbx : wb.heap[wr.heap.size]? = some (.cells #[.int .i64 r.typ, .slice Ad nd cd] 35 (0, 0)) := by rw [hwb]; exact heap_alloc_new wr _
      have KX : Hid (∀ W : World, W.heap[wr.heap.size]? = some (.cells #[.int .i64 r.typ, .slice Ad nd cd] 35 (0, 0)) → W.cell? ⟨wr.heap.size, 0, none⟩ = some (.int .i64 r.typ) ∧ W.cell? ⟨wr.heap.size, 1, none⟩ = some (.slice Ad nd cd)) := fun W hW => (row2 hW).1
      have KB : Hid (∀ W, Below wb.heap.size wb W → W.heap[wr.heap.size]? = some (.cells #[.int .i64 r.typ, .slice Ad nd cd] 35 (0, 0))) := fun W hW => (hW.block wr.heap.size (by rw [hwb]; simp)).trans hbx
      have HIL : Hid (i < n) := hlt
      clear hb hx g0 g1 g3 g4 hr hil hbw hbx
      go_upto_region 5 with fail
      rw [← hwb]
      clear hwb x0 x1
      refine wp_region_held_drew (S := fun W => W.heap[wr.heap.size]? = some (.cells #[.int .i64 r.typ, .slice Ad nd cd] 35 (0, 0))) (by kernel_rfl) (KB.out _ (Below.refl _ _).drew) (fun hHeld => ?_)
      refine takeR (i := 0) (v := ?v0_1) rfl (by kernel_rfl) (by kernel_rfl) (by kernel_rfl) (fun _ _ _ h => h) (by rfl) ?hy0_1 (by assumption) ?rest0_1
      case hy0_1 => (intro W hSw; obtain ⟨q0, q1⟩ := KX.out W hSw; go_simp; try with_reducible rfl)
      try simp only [Act.put]
      try simp only [List.setIfInBounds_toArray]
      try simp only [List.set_cons_succ]
      try simp only [List.set_cons_zero]
      refine takeR (i := 1) (v := ?v1_2) rfl (by kernel_rfl) (by kernel_rfl) (by kernel_rfl) (fun _ _ _ h => h) (by rfl) ?hy1_2 (by assumption) ?rest1_2
      case hy1_2 => (intro W hSw; obtain ⟨q0, q1⟩ := KX.out W hSw; go_simp; try with_reducible rfl)
      try simp only [Act.put]
      try simp only [List.setIfInBounds_toArray]
      try simp only [List.set_cons_succ]
      try simp only [List.set_cons_zero]
      refine takeR (i := 2) (v := ?v2_3) rfl (by kernel_rfl) (by kernel_rfl) (by kernel_rfl) (fun _ _ _ h => h) (by rfl) ?hy2_3 (by assumption) ?rest2_3
      case hy2_3 => (intro W hSw; obtain ⟨q0, q1⟩ := KX.out W hSw; go_simp; try with_reducible rfl)
      try simp only [Act.put]
      try simp only [List.setIfInBounds_toArray]
      try simp only [List.set_cons_succ]
      try simp only [List.set_cons_zero]
      refine takeR (i := 3) (v := ?v3_4) rfl (by kernel_rfl) (by kernel_rfl) (by kernel_rfl) (fun _ _ _ h => h) (by rfl) ?hy3_4 (by assumption) ?rest3_4
      case hy3_4 => (intro W hSw; obtain ⟨q0, q1⟩ := KX.out W hSw; go_simp; try with_reducible rfl)
      try simp only [Act.put]
      try simp only [List.setIfInBounds_toArray]
      try simp only [List.set_cons_succ]
      try simp only [List.set_cons_zero]
      refine takeR (i := 4) (v := ?v4_5) rfl (by kernel_rfl) (by kernel_rfl) (by kernel_rfl) (fun _ _ _ h => h) (by rfl) ?hy4_5 (by assumption) ?rest4_5
      case hy4_5 => (intro W hSw; obtain ⟨q0, q1⟩ := KX.out W hSw; go_simp; try with_reducible rfl)
      try simp only [Act.put]
      try simp only [List.setIfInBounds_toArray]
      try simp only [List.set_cons_succ]
      try simp only [List.set_cons_zero]
      refine takeR (i := 5) (v := ?v5_6) rfl (by kernel_rfl) (by kernel_rfl) (by kernel_rfl) (fun _ _ _ h => h) (by rfl) ?hy5_6 (by assumption) ?rest5_6
      case hy5_6 => (intro W hSw; obtain ⟨q0, q1⟩ := KX.out W hSw; go_simp; try with_reducible rfl)
      try simp only [Act.put]
      try simp only [List.setIfInBounds_toArray]
      try simp only [List.set_cons_succ]
      try simp only [List.set_cons_zero]
      have BT : Hid (Below wb.heap.size wb wb.drew) := (Below.refl _ _).drew
      clear hHeld
      obtain ⟨wc, hwc⟩ : ∃ wc, wc = wb.drew := ⟨_, rfl⟩
      rw [← hwc] at BT
      rw [← hwc]
      clear hwc
      refine wpAnyH_ready (rs := [6]) (by kernel_rfl) (by simp) ?_
      refine AllReadyH.cons rfl (fun K hK => ?_) AllReadyH.nil
      refine step_appB13 (by rfl) (.const (.slice none 0 0)) (.tmp 21) 33 (by rfl) wc.heap.size 5 Tryd.underlying33 info_u8 _ [] (by rfl) (Ob.nil_ _ _ _) _ Ad nd cd r.dat (by rfl) (RX.out wc (HW.out.trans ((BB.out.trans (BT.out.mono BB.out.size)).mono HW.out.size))) (by have := H8.out; simp only [List.length_nil]; omega) (Nat.le_refl _) ?_
      intro v9 w9 ho9 hb9
      rw [List.nil_append] at ho9
      have B9 : Hid (Below wb.heap.size wb w9) := BT.out.trans (hb9.mono BT.out.size)
      obtain ⟨A9, c9, rfl, -, -, -⟩ := ho9.rd
      have O9 := Lib.hid ho9
      rw [HD.out] at O9
      rw [HD.out]
      clear ho9 hb9
      show K (Act.put _ (some 22) (.slice A9 nd c9)) w9
      refine hK.out _ _ (KB.out _ B9.out) (fun hHeld => ?_)
      try simp only [Act.put]
      try simp only [List.setIfInBounds_toArray]
      try simp only [List.set_cons_succ]
      try simp only [List.set_cons_zero]
      clear hK K
      refine takeR (i := 7) (v := ?v7_7) rfl (by kernel_rfl) (by kernel_rfl) (by kernel_rfl) (fun _ _ _ h => h) (by rfl) ?hy7_7 (by assumption) ?rest7_7
      case hy7_7 => (intro W hSw; go_simp; try with_reducible rfl)
      try simp only [Act.put]
      try simp only [List.setIfInBounds_toArray]
      try simp only [List.set_cons_succ]
      try simp only [List.set_cons_zero]
      have G9 : Hid (w9.heap[w.heap.size]? = some (.cells (flatQ (qs ++ List.replicate (n - i) zQ)).toArray 35 (0, 0))) := by
        have hlt := (Array.getElem?_eq_some_iff.1 HG.out).1
        exact (B9.out.block _ (Nat.lt_of_lt_of_le hlt BB.out.size)).trans ((BB.out.block _ hlt).trans HG.out)
      have hf0 : w9.frozen? ⟨w.heap.size, i * 2, none⟩ = false := by simp [World.frozen?, G9.out]
      have hf1 : w9.frozen? ⟨w.heap.size, i * 2 + 1, none⟩ = false := by simp [World.frozen?, G9.out]
      have HRP : Hid (List.replicate (n - i) zQ = zQ :: List.replicate (n - (i + 1)) zQ) := by show _ = _; rw [show n - i = n - (i + 1) + 1 by have := HIL.out; omega, List.replicate_succ]
      have hat := flatQ_at (qs ++ List.replicate (n - i) zQ) i zQ (by rw [List.getElem?_append_right (by rw [HQL.out]; exact Nat.le_refl _), HQL.out, Nat.sub_self, HRP.out]; rfl)
      have hc0 : w9.cell? ⟨w.heap.size, i * 2, none⟩ = some (.int .i64 0) := by rw [cell_of_row w9 w.heap.size _ _ _ _ G9.out, List.getElem?_toArray]; exact hat.1
      have hc1 : w9.cell? ⟨w.heap.size, i * 2 + 1, none⟩ = some (.slice none 0 0) := by rw [cell_of_row w9 w.heap.size _ _ _ _ G9.out, List.getElem?_toArray]; exact hat.2
      clear hat
      refine takeR (i := 8) (v := ?v8_8) rfl (by kernel_rfl) (by kernel_rfl) (by kernel_rfl) (fun _ _ _ h => h) (by rfl) ?hy8_8 (by assumption) ?rest8_8
      case hy8_8 => (intro W hSw; go_simp; try with_reducible rfl)
      try simp only [Act.put]
      try simp only [List.setIfInBounds_toArray]
      try simp only [List.set_cons_succ]
      try simp only [List.set_cons_zero]
      clear hHeld
      refine wpAnyH_ready (rs := [9]) (by kernel_rfl) (by simp) ?_
      refine AllReadyH.cons rfl (fun K hK => ?_) AllReadyH.nil
      rw [if_pos (by rfl)]
      go_simp
      obtain ⟨wf, hwf⟩ : ∃ wf, wf = (w9.setCell ⟨w.heap.size, i * 2, none⟩ (.int .i64 r.typ)).setCell ⟨w.heap.size, i * 2 + 1, none⟩ (.slice A9 nd c9) := ⟨_, rfl⟩
      rw [← hwf]
      have kf : ∀ k, k ≠ w.heap.size → wf.heap[k]? = w9.heap[k]? := fun k hk => by rw [hwf]; exact (Below.heap_setCell _ _ _ _ hk).trans (Below.heap_setCell _ _ _ _ hk)
      have sf : wf.heap.size = w9.heap.size := by rw [hwf, World.size_setCell, World.size_setCell]
      have GF : Hid (wf.heap[w.heap.size]? = some (.cells (flatQ (qs ++ [(r, A9, nd, c9)] ++ List.replicate (n - (i + 1)) zQ)).toArray 35 (0, 0))) := by
        show _ = _
        rw [hwf, row_setC (row_setC G9.out (i * 2) (.int .i64 r.typ)) (i * 2 + 1) (.slice A9 nd c9), HRP.out, ← HQL.out]
        exact congrArg (fun x => some (Obj.cells x 35 (0, 0))) (flatQ_set qs (List.replicate (n - (qs.length + 1)) zQ) (r, A9, nd, c9) zQ)
      have BF : Hid (Below w.heap.size w wf) := by show Below _ _ _; rw [hwf]; exact ((HW.out.trans ((BB.out.trans (B9.out.mono BB.out.size)).mono HW.out.size)).setCell (Nat.le_refl _) _).setCell (Nat.le_refl _) _
      have hlt0 : w.heap.size < wr.heap.size := (Array.getElem?_eq_some_iff.1 HG.out).1
      have SF : Hid (∀ q ∈ qs ++ [(r, A9, nd, c9)], Ob wf w.heap.size 5 (.slice q.2.1 q.2.2.1 q.2.2.2) q.1.dat ∧ q.1.dat.length ≤ 8192) := fun q hq => by
        have hob : Ob w9 w.heap.size 5 (.slice q.2.1 q.2.2.1 q.2.2.2) q.1.dat ∧ q.1.dat.length ≤ 8192 := by
          rcases List.mem_append.1 hq with hq | hq
          · exact ⟨((HS.out q hq).1.below BB.out).below (B9.out), (HS.out q hq).2⟩
          · obtain rfl := List.mem_singleton.1 hq
            exact ⟨O9.out.wide (Nat.le_trans HW.out.size (Nat.le_trans BB.out.size BT.out.size)), by show r.dat.length ≤ _; rw [HD.out]; exact H8.out⟩
        refine ⟨hob.1.same fun k hk => kf k ?_, hob.2⟩
        rintro rfl
        exact hob.1.not_at14 G9.out (by decide) hk
      refine hK.out _ _ ((kf _ (by omega)).trans (KB.out _ B9.out)) (fun hHeld => ?_)
      try simp only [Act.put]
      try simp only [List.setIfInBounds_toArray]
      try simp only [List.set_cons_succ]
      try simp only [List.set_cons_zero]
      clear hK K hwf kf sf hHeld
      refine wpAnyH_done (by kernel_rfl) ?_ _
      clear hlt0
      go_wp2_with fail
      go_roundw
      case rel =>
        refine ⟨i + 1, qs ++ [(r, A9, nd, c9)], by omega, by go_num, by rw [List.length_append, HQL.out]; rfl, GF.out, SF.out, BF.out, ?_⟩
        show _ = _
        rw [List.map_append, HQ.out, List.take_add_one, HRK.out]
        rfl
      case measure => simp [intOf]; omega
    · have hin : i = n := by omega
      have hlt2 : ¬ (i : Int) < (n : Int) := by omega
      have HE : Hid (qs.map (·.1) = l) := by show _ = _; rw [HQ.out]; exact List.take_of_length_le (by rw [HLN.out]; omega)
      have hg := HG.out
      rw [hin, Nat.sub_self, List.replicate_zero, List.append_nil] at hg
      have HX := Lib.hid (cps_end (HQL.out.trans hin) HN.out (Nat.le_refl _) hg HS.out)
      clear hg
      go_wp2_with fail
      go_ret
      exact ⟨HW.out, _, qs, by rw [HLN.out]; rfl, by rw [HLN.out]; exact HX.out, HE.out⟩
end Go.Proofs.YtahgaogmcffglaaDoor
