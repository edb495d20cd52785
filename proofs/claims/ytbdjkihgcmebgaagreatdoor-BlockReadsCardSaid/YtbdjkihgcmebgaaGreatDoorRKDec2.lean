/- What item of layer 3's reader returns, and Decode. -/
import Derived.Test.YtbdjkihgcmebgaaGreatDoorRKDecG
namespace Go.Proofs.YtbdjkihgcmebgaaGreatDoor
open Go.RowKit

/-- A call gives back an item, a number and a number more. -/
def GivesD (x : Itm) (n e : Int) (w : World) (en : Ending) (w' : World) : Prop := ∃ v, en = .returned (.tuple #[v, .int .i64 n, .int .i64 e]) ∧ RdI w' w'.heap.size v x ∧ Below w.heap.size w w'

section
variable {w : World} {g n c i p d D : Nat} {A : Option Addr} {bs : List UInt8} {sub : Nat → List UInt8 → Except Int (Itm × Nat × List UInt8)} {deep : Bool}
theorem arrB_eq (x : UInt8) : arrB x = true ↔ (x = 0x9f ∨ (x.toNat / 32 = 4 ∧ x.toNat % 32 ≤ 27)) := by unfold arrB; simp
theorem behV_some {x : UInt8} (h : ¬ behV x g = .nilFunc) : x.toNat % 32 ≤ 27 ∧ (x.toNat / 32 = 0 ∨ x.toNat / 32 = 2 ∨ x.toNat / 32 = 3 ∨ x.toNat / 32 = 4) := by
  unfold behV at h
  by_cases h27 : 27 < x.toNat % 32
  · rw [if_pos h27] at h; exact absurd rfl h
  rw [if_neg h27] at h
  by_cases h0 : x.toNat / 32 = 0
  · omega
  rw [if_neg h0] at h
  by_cases h2 : x.toNat / 32 = 2
  · omega
  rw [if_neg h2] at h
  by_cases h3 : x.toNat / 32 = 3
  · omega
  rw [if_neg h3] at h
  by_cases h4 : x.toNat / 32 = 4
  · omega
  rw [if_neg h4] at h
  exact absurd rfl h
theorem item_step (hdec : dec D = itemD sub deep) (hdeep : deep = decide (d = 8)) (hsub : deep = false → ∃ D', d + 1 + D' = 8 ∧ sub = dec D' ∧ ItemIH D') (hp : p ≤ 4096) (h : RSt w g A n c bs i p d) :
    Calls Tryz.prog 34 #[.pointer (some ⟨g, 0, none⟩)] w (GivesR g A n c bs d (dec D p (bs.drop i)) w) := by
  rw [hdec]
  by_cases hl : i < n
  · obtain ⟨-, -, x, -, -, hx, -⟩ := h.byte hl
    by_cases hc : p = 4096 ∨ (arrB x = true ∧ deep = true)
    · have e : itemD sub deep p (bs.drop i) = .error 32 := by rw [hx]; exact itemD_32 hc
      rw [e]
      by_cases h4 : p = 4096
      · exact (item_full h hl x hx h4).mono fun e w' hh => hh
      · rcases hc with hc | ⟨ha, hdp⟩
        · exact absurd hc h4
        · rw [hdeep] at hdp
          exact (item_deep h hl x hx (by omega) ha (of_decide_eq_true hdp)).mono fun e w' hh => hh
    · have hp4 : p < 4096 := by omega
      by_cases h9 : x = 0x9f
      · have hdf : deep = false := by
          rcases hd : deep with _ | _
          · rfl
          · exact absurd (.inr ⟨(arrB_eq x).2 (.inl h9), hd⟩) hc
        obtain ⟨D', hD', rfl, IH⟩ := hsub hdf
        have e : itemD (dec D') deep p (bs.drop i) = lst 5 (endl (dec D') ((bs.drop (i + 1)).length + 1) (p + 1) (bs.drop (i + 1))) := by rw [hx]; exact itemD_end hc h9
        rw [e]
        exact item_endless h hl x hx hp4 h9 (by omega) D' hD' IH
      · have e : itemD sub deep p (bs.drop i) = tailR sub (p + 1) (headD (bs.drop i)) := by rw [hx]; exact itemD_head hc h9
        rw [e]
        by_cases hb : behV x g = .nilFunc
        · have ha : arrB x = false := by
            rcases har : arrB x with _ | _
            · rfl
            · exfalso
              rcases (arrB_eq x).1 har with h1 | ⟨h1, h2⟩
              · exact h9 h1
              · unfold behV at hb
                rw [if_neg (by omega), if_neg (by omega), if_neg (by omega), if_neg (by omega), if_pos h1] at hb
                cases hb
          have e2 : headD (bs.drop i) = .error 31 := by rw [hx]; exact headD_31 hb
          rw [e2]
          exact (item_none h hl x hx hp4 h9 ha hb).mono fun e w' hh => hh
        · obtain ⟨h27, hm⟩ := behV_some hb
          have hna : ¬ x.toNat / 32 = 4 → arrB x = false := fun hne => by
            rcases har : arrB x with _ | _
            · rfl
            · rcases (arrB_eq x).1 har with h1 | ⟨h1, h2⟩
              · exact absurd h1 h9
              · exact absurd h1 hne
          rcases hm with hm0 | hm0 | hm0 | hm0
          · have hbv : behV x g = .func (.func 77) #[.pointer (some ⟨g, 0, none⟩)] #[] := by unfold behV; rw [if_neg (by omega), if_pos hm0]
            refine item_go_uint h hl x hx hp4 h9 (hna (by omega)) hbv h27 (.inl hm0) (fun W i' p1 num hs hn _ => ?_)
            rw [kindR, if_pos hm0]
            exact uint_any hs num hn
          · have hbv : behV x g = .func (.func 78) #[.pointer (some ⟨g, 0, none⟩)] #[] := by unfold behV; rw [if_neg (by omega), if_neg (by omega), if_pos hm0]
            refine item_go_bytes h hl x hx hp4 h9 (hna (by omega)) hbv h27 (.inr (.inl hm0)) (fun W i' p1 num hs hn _ => ?_)
            rw [kindR, if_neg (by omega), if_neg (by omega), hm0]
            exact textD_code hs num hn 2 (.inl rfl)
          · have hbv : behV x g = .func (.func 79) #[.pointer (some ⟨g, 0, none⟩)] #[] := by unfold behV; rw [if_neg (by omega), if_neg (by omega), if_neg (by omega), if_pos hm0]
            refine item_go_text h hl x hx hp4 h9 (hna (by omega)) hbv h27 (.inr (.inr (.inl hm0))) (fun W i' p1 num hs hn _ => ?_)
            rw [kindR, if_neg (by omega), if_neg (by omega), hm0]
            exact textD_code hs num hn 3 (.inr rfl)
          · have hbv : behV x g = .func (.func 80) #[.pointer (some ⟨g, 0, none⟩)] #[] := by unfold behV; rw [if_neg (by omega), if_neg (by omega), if_neg (by omega), if_neg (by omega), if_pos hm0]
            have ha : arrB x = true := (arrB_eq x).2 (.inr ⟨hm0, h27⟩)
            have hdf : deep = false := by
              rcases hd : deep with _ | _
              · rfl
              · exact absurd (.inr ⟨ha, hd⟩) hc
            obtain ⟨D', hD', rfl, IH⟩ := hsub hdf
            refine item_go_array h hl x hx hp4 h9 ha (by omega) hbv h27 (.inr (.inr (.inr hm0))) (fun W i' p1 num hs hn hp1 => ?_)
            rw [kindR, if_neg (by omega), if_pos hm0]
            exact array_any IH hD' hp1 hs num hn
  · have hlen := h.rd.1
    have e : itemD sub deep p (bs.drop i) = .error 30 := by rw [List.drop_eq_nil_of_le (by omega), itemD]
    rw [e]
    exact (item_nil h hl).mono fun e w' hh => hh
theorem item_all : ∀ D, ItemIH D
  | 0 => fun w g A n c bs i p d hD hp h => item_step (sub := fun _ _ => .error 32) (deep := true) rfl (by rw [decide_eq_true (by omega : d = 8)]) (fun hh => by cases hh) hp h
  | D + 1 => fun w g A n c bs i p d hD hp h => item_step (sub := dec D) (deep := false) rfl (by rw [decide_eq_false (by omega : ¬ d = 8)]) (fun _ => ⟨D, by omega, rfl, item_all D⟩) hp h
end

set_option maxRecDepth 100000 in
set_option maxHeartbeats 4000000 in
theorem cdecode_any (A : Option Addr) (n c B : Nat) (l : List UInt8) (w : World) (hB : B ≤ w.heap.size) (h : Rd w B A n l) (hn : n ≤ 140737488355328) (hc : n ≤ c) (hL : LaidE w) :
    Calls Tryz.prog 22 #[.slice A n c] w (GivesD (decode l).1 (decode l).2.1 (decode l).2.2 w) := by
  have hst : RSt ((w.alloc (.cells #[.int .i64 0, .int .u64 0, .slice none 0 0, .slice none 0 0] 42)).alloc (.cells #[.slice A n c, .int .i64 0, .int .i64 0, .int .i64 0] 83)) (w.heap.size + 1) A n c l 0 0 0 :=
    ⟨by simp, by simp, by simp, by simp, by simp, by simp, by simp, ((h.alloc hB _).alloc (Nat.le_trans hB (le_alloc _ _)) _).more (by omega), Nat.zero_le _, hn, hc⟩
  have C1 := Lib.hid (item_all 8 _ _ _ _ _ _ _ _ _ (by rfl) (Nat.zero_le _) hst)
  obtain ⟨r, hr⟩ : ∃ r, r = dec 8 0 (l.drop 0) := ⟨_, rfl⟩
  rw [← hr] at C1
  have HR := Lib.hid hr
  have hlen := h.1
  have HL := Lib.hid hL
  clear hst h hr
  have hgl : 0 < w.heap.size := hL.lt
  clear hL
  rcases r with z | ⟨x, p', l'⟩
  · have hd : decode l = (.zero, 0, z) := by
      unfold decode
      have := HR.out
      rw [List.drop_zero] at this
      rw [← this]
    rw [hd]
    clear hd
    have HC : Hid (Calls Tryz.prog 34 #[.pointer (some ⟨w.heap.size + 1, 0, none⟩)] ((w.alloc (.cells #[.int .i64 0, .int .u64 0, .slice none 0 0, .slice none 0 0] 42)).alloc (.cells #[.slice A n c, .int .i64 0, .int .i64 0, .int .i64 0] 83)) fun e w' =>
      e = .returned (.tuple #[.agg #[.int .i64 0, .int .u64 0, .slice none 0 0, .slice none 0 0], .iface 107 (.agg #[.int .i64 z])]) ∧ Only (w.heap.size + 1) ((w.alloc (.cells #[.int .i64 0, .int .u64 0, .slice none 0 0, .slice none 0 0] 42)).alloc (.cells #[.slice A n c, .int .i64 0, .int .i64 0, .int .i64 0] 83)) w') := C1
    clear C1
    go_enter Tryz.func22, Tryz.ntmps22
    go_wp2_with fail
    refine HC.out.mono ?_
    rintro e w1 ⟨rfl, ho⟩
    have hb1 := (ho.below (by simp)).mono (B' := w.heap.size + 1) (Nat.le_refl _)
    have hb2 : Below (w.heap.size + 1) (w.alloc (.cells #[.int .i64 0, .int .u64 0, .slice none 0 0, .slice none 0 0] 42)) (w1.alloc (.cells #[.int .i64 0, .int .u64 0, .slice none 0 0, .slice none 0 0] 42)) :=
      (((Below.refl _ _).alloc (by simp) _).trans hb1).alloc (by have := hb1.size; simp at this; omega) _
    have hbw : Below w.heap.size w (w1.alloc (.cells #[.int .i64 0, .int .u64 0, .slice none 0 0, .slice none 0 0] 42)) := ((Below.refl _ _).alloc (Nat.le_refl _) _).trans (hb2.mono (Nat.le_succ _))
    have C2 := Lib.hid (number_any z _ (HL.out.below hbw hgl))
    have HB2 := Lib.hid hb2
    have HBW := Lib.hid hbw
    clear ho hb1 hb2 hbw
    go_wp2_with fail
    refine C2.out.mono ?_
    rintro e w3 ⟨rfl, hb3⟩
    have hb4 := HB2.out.trans (hb3.mono (by have := HB2.out.size; simpa using this))
    obtain ⟨⟨z0, z1, z2, z3⟩, f0, f1, f2, f3⟩ := zero_cells hb4
    have HB4 := Lib.hid (((Below.refl w.heap.size w).alloc (Nat.le_refl _) _).trans (hb4.mono (Nat.le_succ _)))
    clear hb3 hb4
    go_wp2_with fail
    refine bodyPost_ret (v := .tuple #[noItem, .int .i64 0, .int .i64 z]) (by simp [results, Tryz.results22, go_sem, z0, z1, z2, z3, noItem]) rfl ⟨_, rfl, RdI.mk_uint (by decide), set4_below HB4.out (Nat.le_refl _)⟩
  · have hd : decode l = (x, ((l.length - l'.length : Nat) : Int), 0) := by
      unfold decode
      have := HR.out
      rw [List.drop_zero] at this
      rw [← this]
    rw [hd]
    clear hd
    obtain ⟨M, hM⟩ : ∃ M, M = l.length - l'.length := ⟨_, rfl⟩
    rw [← hM]
    have HM := Lib.hid hM
    clear hM
    go_enter Tryz.func22, Tryz.ntmps22
    go_wp2_with fail
    refine C1.out.mono ?_
    rintro e w1 ⟨v, i1, rfl, hv, hs1, hl1, ho⟩
    obtain ⟨k1, n1, A1, nd1, cd1, AL1, nl1, cl1, rfl⟩ := hv.form
    have hb1 := (ho.below (by simp)).mono (B' := w.heap.size + 1) (Nat.le_refl _)
    have hsz1 : w.heap.size + 2 ≤ w1.heap.size := by have := ho.size; simpa using this
    have hb2 : Below (w.heap.size + 1) (w.alloc (.cells #[.int .i64 0, .int .u64 0, .slice none 0 0, .slice none 0 0] 42)) (w1.alloc (.cells #[.int .i64 k1, .int .u64 (n1 : Int), .slice A1 nd1 cd1, .slice AL1 nl1 cl1] 42)) :=
      (((Below.refl _ _).alloc (by simp) _).trans hb1).alloc (by omega) _
    obtain ⟨⟨z0, z1, z2, z3⟩, f0, f1, f2, f3⟩ := zero_cells hb2
    have HBW := Lib.hid (((Below.refl w.heap.size w).alloc (Nat.le_refl _) (.cells #[.int .i64 0, .int .u64 0, .slice none 0 0, .slice none 0 0] 42)).trans (hb2.mono (Nat.le_succ _)))
    have r1 := (hs1.alloc (.cells #[.int .i64 k1, .int .u64 (n1 : Int), .slice A1 nd1 cd1, .slice AL1 nl1 cl1] 42)).c1
    have HV := Lib.hid (hv.mask_go (S' := lows (w.heap.size + 2)) (w' := w1.alloc (.cells #[.int .i64 k1, .int .u64 (n1 : Int), .slice A1 nd1 cd1, .slice AL1 nl1 cl1] 42)) (B' := w1.heap.size + 1) (Nat.le_succ _) (fun k hk _ => Below.heap_alloc _ _ _ hk) (fun k _ hk => by have := lows_f.1 hk; simp at this; exact lows_f.2 this))
    have hi1 : M = i1 := by
      have := hs1.hi
      rw [HM.out, ← hl1, List.length_drop]
      omega
    have HI1 := Lib.hid hi1
    have HSZ := Lib.hid hsz1
    clear hv hs1 hl1 ho hb1 hb2 hi1 hsz1
    go_wp2_with fail
    go_region
    go_wp2_with fail
    have hv2 := (HV.out.fin (b := w.heap.size) (lo' := 0) (u0 := .int .i64 k1) (u1 := .int .u64 (n1 : Int)) (u2 := .slice A1 nd1 cd1) (u3 := .slice AL1 nl1 cl1) (by simp) (by omega) (Nat.zero_le _)).unmask
    have hv3 := hv2.below (Below.drew_ (B := (set4 (w1.alloc (.cells #[.int .i64 k1, .int .u64 (n1 : Int), .slice A1 nd1 cd1, .slice AL1 nl1 cl1] 42)) w.heap.size (.int .i64 k1) (.int .u64 (n1 : Int)) (.slice A1 nd1 cd1) (.slice AL1 nl1 cl1)).heap.size))
    rw [HI1.out]
    refine bodyPost_ret (v := .tuple #[.agg #[.int .i64 k1, .int .u64 (n1 : Int), .slice A1 nd1 cd1, .slice AL1 nl1 cl1], .int .i64 (i1 : Int), .int .i64 0]) (by simp [results, Tryz.results22, go_sem, z0, z1, z2, z3]) rfl ⟨_, rfl, hv3, (set4_below HBW.out (Nat.le_refl _)).drew⟩
end Go.Proofs.YtbdjkihgcmebgaaGreatDoor
