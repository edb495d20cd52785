/- What a table has behind every row of calls. -/
import Derived.Test.YtkflekaibfkicaaBbD
import Derived.Test.YtkflekaibfkicaaBagY
import Derived.Deep.RegionHeld3
namespace Go.Proofs.Ytkflekaibfkicaa
open Go.RowKit

/-- Where BagTable stands behind i calls. -/
def BtS (w wr : World) (g1 g2 i : Nat) : Prop := ∃ (T : Int → Option ByteArray) (lu : List (Int × ByteArray)), nTSt w.heap.size wr g1 i T ∧ Ut w.heap.size wr g2 g1 lu ∧ TIs T lu ∧ lu.length ≤ i ∧ Below w.heap.size w wr
theorem BtS.below {w wr w' : World} {g1 g2 i : Nat} (h : BtS w wr g1 g2 i) (hb : Below wr.heap.size wr w') : BtS w w' g1 g2 i := by
  obtain ⟨T, lu, h1, h2, h3, h4, h5⟩ := h
  exact ⟨T, lu, h1.below hb, h2.below hb, h3, h4, h5.trans (hb.mono h5.size)⟩

/-- What one call makes of both. -/
theorem BtS.put {w w2 w3 : World} {g1 g2 i : Nat} {T : Int → Option ByteArray} {lu : List (Int × ByteArray)} {k : Int} {v : ByteArray} {e : Ending}
    (hT : nTSt w.heap.size w2 g1 (i + 1) (putT T k v)) (hU : Ut w.heap.size w2 g2 g1 lu) (hI : TIs T lu) (hl : lu.length ≤ i) (hb : Below w.heap.size w w2) (hp : PutU w.heap.size g2 g1 lu k v w2 e w3) :
    e = .returned (.bool (T k).isSome) ∧ BtS w w3 g1 g2 (i + 1) := by
  obtain ⟨j, ok, ⟨h1, h2, h3, h4⟩, rfl, hu3, r, hr, hk⟩ := hp
  obtain ⟨c1, c2, c3⟩ := hI.cut h1 h2 h3 h4
  have hT3 := hT.kp hk (hU.far hr).symm
  cases ok with
  | true =>
    obtain ⟨hj, v0, hv0, -, he, hB⟩ := c3 rfl
    refine ⟨by rw [hv0]; rfl, _, _, hT3, hu3, ?_, ?_, hb.trans hk.below⟩
    · rw [if_pos rfl]
      exact hI.put he c1 hB (fun p hp => by simp at hp; rw [hp])
    · rw [if_pos rfl]
      have := congrArg List.length he
      simp at this ⊢
      omega
  | false =>
    obtain ⟨hn, hB⟩ := c2 rfl
    refine ⟨by rw [hn]; rfl, _, _, hT3, hu3, ?_, ?_, hb.trans hk.below⟩
    · rw [if_neg (by simp)]
      exact hI.put (M := []) (by simp) c1 hB (fun p hp => by simp at hp)
    · rw [if_neg (by simp)]
      simp
      omega
theorem BtS.del {w w2 w3 : World} {g1 g2 i : Nat} {T : Int → Option ByteArray} {lu : List (Int × ByteArray)} {k : Int} {e : Ending}
    (hT : nTSt w.heap.size w2 g1 i (delT T k)) (hU : Ut w.heap.size w2 g2 g1 lu) (hI : TIs T lu) (hl : lu.length ≤ i) (hb : Below w.heap.size w w2) (hp : DelU w.heap.size g2 g1 lu k w2 e w3) :
    e = .returned (.bool (T k).isSome) ∧ BtS w w3 g1 g2 (i + 1) := by
  obtain ⟨j, ok, ⟨h1, h2, h3, h4⟩, rfl, hu3, hk⟩ := hp
  obtain ⟨c1, c2, c3⟩ := hI.cut h1 h2 h3 h4
  have hT3 := (hT.kp hk hU.ne.symm).mono (Nat.le_succ i)
  cases ok with
  | true =>
    obtain ⟨hj, v0, hv0, -, he, hB⟩ := c3 rfl
    refine ⟨by rw [hv0]; rfl, _, _, hT3, hu3, ?_, ?_, hb.trans hk.below⟩
    · rw [if_pos rfl]
      exact hI.del he c1 hB (fun p hp => by simp at hp; rw [hp])
    · rw [if_pos rfl]
      have := congrArg List.length he
      simp at this ⊢
      omega
  | false =>
    obtain ⟨hn, hB⟩ := c2 rfl
    refine ⟨by rw [hn]; rfl, _, _, hT3, hu3, ?_, ?_, hb.trans hk.below⟩
    · rw [if_neg (by simp)]
      have := hI.del (M := []) (by simp) c1 hB (fun p hp => by simp at hp)
      rwa [List.take_append_drop] at this
    · rw [if_neg (by simp)]
      omega
theorem GetU.is {w w' : World} {T : Int → Option ByteArray} {lu : List (Int × ByteArray)} {k : Int} {e : Ending} (hI : TIs T lu) (hp : GetU lu k w e w') : e = .returned (.tuple #[.string ((T k).getD ⟨#[]⟩), .bool (T k).isSome]) ∧ Below w.heap.size w w' := by
  obtain ⟨j, ok, ⟨h1, h2, h3, h4⟩, rfl, hb⟩ := hp
  obtain ⟨c1, c2, c3⟩ := hI.cut h1 h2 h3 h4
  cases ok with
  | true =>
    obtain ⟨hj, v0, hv0, hx, -, -⟩ := c3 rfl
    rw [hv0, if_pos rfl, hx]
    exact ⟨rfl, hb⟩
  | false =>
    rw [(c2 rfl).1]
    exact ⟨rfl, hb⟩
set_option maxRecDepth 100000 in
set_option maxHeartbeats 8000000 in
theorem bagTable_walk (A : Option Addr) (n c : Nat) (l : List OpT) (w : World) (h : RdO w A n l ∧ n ≤ c) :
    Calls Try.prog 3 #[.slice A n c] w fun e w' => e = .returned (.bool true) ∧ Below w.heap.size w w' := by
  have CH := Lib.hid (heads12_any w)
  have HA := Lib.hid h.1
  clear h
  by_cases h5 : (500 : Int) < n
  · go_enter Try.func3, Try.ntmps3
    go_wp2_with fail
    refine CH.out.mono ?_
    rintro e w' ⟨rfl, hb⟩
    have HB := Lib.hid hb
    go_wp2_with fail
    go_ret
    exact ⟨rfl, HB.out⟩
  obtain ⟨g1, hg1⟩ : ∃ g1, g1 = w.heap.size := ⟨_, rfl⟩
  obtain ⟨g2, hg2⟩ : ∃ g2, g2 = g1 + 1 := ⟨_, rfl⟩
  obtain ⟨w0, hw0⟩ : ∃ w0, w0 = (w.alloc (.cells #[.map none] 26)).alloc (.cells #[.slice none 0 0, .slice none 0 0] 30) := ⟨_, rfl⟩
  have hc1 : w0.heap[g1]? = some (.cells #[.map none] 26) := by
    rw [hw0, hg1, Below.heap_alloc _ _ _ (by simp)]; exact heap_alloc_new w _
  have hc2 : w0.heap[g2]? = some (.cells #[.slice none 0 0, .slice none 0 0] 30) := by
    have := heap_alloc_new (w.alloc (.cells #[.map none] 26)) (.cells #[.slice none 0 0, .slice none 0 0] 30)
    rw [hw0, hg2, hg1]
    simpa only [World.size_alloc] using this
  have HS0 : Hid (BtS w w0 g1 g2 0) :=
    ⟨fun _ => none, [], ⟨by rw [hg1]; exact Nat.le_refl _, by simp [World.frozen?, hc1], .map none, by simp [World.cell?, hc1], .inl ⟨rfl, fun _ => rfl⟩⟩,
     ⟨by rw [hg2, hg1]; exact Nat.le_succ _, by rw [hw0, hg1]; simp; omega, by rw [hg2]; omega, by simp [World.frozen?, hc2], by simp [World.frozen?, hc2], .slice none 0 0, .slice none 0 0, by simp [World.cell?, hc2], by simp [World.cell?, hc2], World.ownsRow_nil w0 _ _ 1, World.ownsRow_nil w0 _ _ 1, fun b hb => (nomatch hb), fun b hb => (nomatch hb), fun b hb => (nomatch hb)⟩,
     TIs.nil, Nat.le_refl _, by rw [hw0]; exact ((Below.refl _ _).alloc (Nat.le_refl _) _).alloc (by simp) _⟩
  have hn3 : n ≤ 500 := by omega
  clear hc1 hc2 CH
  go_enter Try.func3, Try.ntmps3
  go_wp2_with fail
  rw [← hw0, ← hg1, ← hg2]
  clear hw0 hg1 hg2 h5
  go_loopw [5] (fun k wr => ∃ i : Nat, i ≤ n ∧ k = .int .i64 i ∧ BtS w wr g1 g2 i) (fun k _ => n - (intOf k).toNat)
  case atStart => exact ⟨0, Nat.zero_le _, rfl, HS0.out⟩
  case round =>
    clear HS0
    obtain ⟨i, hi, rfl, T, lu, hT, hU, hI, hl, hb⟩ := hrel
    have HT := Lib.hid (And.intro hT (And.intro hU (And.intro hI (And.intro hl hb))))
    by_cases hlt : i < n
    case neg =>
      obtain rfl : n = i := by omega
      have tn : ¬ (n : Int) < (n : Int) := by omega
      obtain ⟨vk, vv, hck, -, hok, -⟩ := hU.st
      obtain ⟨A3, c3, rfl, -, hrz⟩ := (show Ov wr w.heap.size 3 vk ((lu.map (·.1)).map (Value.int .i64)) by rw [List.map_map]; exact hok).rz
      obtain ⟨m, hm⟩ : ∃ m, m = (lu.map (·.1)).length := ⟨_, rfl⟩
      rw [← hm] at hck hrz
      have hm5 : m ≤ n := by rw [hm, List.length_map]; exact hl
      have CK := Lib.hid (nkeys_any wr.drew (by omega : n ≤ 100000) (hT.below (W := wr.drew) ⟨rfl, rfl, rfl, Nat.le_refl _, fun _ _ => rfl⟩))
      have KF : Hid (∀ W, Below wr.heap.size wr W → W.cell? ⟨g2, 0, none⟩ = some (.slice A3 m c3)) := fun W hW => (hW.cell (p := ⟨g2, 0, none⟩) (World.block_lt_of_cell? wr ⟨g2, 0, none⟩ hck)).trans hck
      have HR := Lib.hid (And.intro hrz hm5)
      clear hT hU hI hl hb hlt hi hck hrz hok hm hm5
      go_wp2_with fail
      go_region_held3 (fun W => W.cell? ⟨g2, 0, none⟩ = some (.slice A3 m c3))
        (first | (exact KF.out _ ((Below.refl _ _).drew)) | (exact KF.out _ BA.out) | fail)
        (first
          | (go_at_call 16; refine CK.out.mono ?_; rintro e w2 ⟨v2, ks, rfl, hov, hr1, hr2, hlen, hb2⟩
             obtain ⟨A4, c4, rfl, -, hrz4⟩ := hov.rz
             have hkk : ks = lu.map (·.1) := HT.out.2.2.1.keys hr1 hr2
             have BA : Hid (Below wr.heap.size wr w2) := (Below.refl _ _).drew.trans hb2
             have C5 : Hid (Calls Try.prog 15 #[.slice A4 ks.length c4, .slice A3 m c3] w2 fun e w' => e = .returned (.bool true) ∧ Below w2.heap.size w2 w') :=
               (rints_any w2 c4 c3 hrz4 (HR.out.1.below BA.out) (by have := HR.out.2; omega)).mono fun _ _ h => ⟨h.1.trans (by rw [hkk]; simp), h.2⟩
             clear hov hr1 hr2 hlen hb2 hrz4 hkk)
          | (go_at_call 15; refine C5.out.mono ?_; rintro e w5 ⟨rfl, hb5⟩
             have BN : Hid (Below wr.heap.size wr w5) := BA.out.trans (hb5.mono BA.out.size)
             have C9 := Lib.hid (heads12_any w5)
             clear BA hb5
             have BA := BN
             clear BN)
          | (go_at_call 8; refine C9.out.mono ?_; rintro e w9 ⟨rfl, hb9⟩
             have BN : Hid (Below wr.heap.size wr w9) := BA.out.trans (hb9.mono BA.out.size)
             clear BA hb9
             have BA := BN
             clear BN)
          | fail)
      have HE : Hid (Below w.heap.size w w9) := HT.out.2.2.2.2.trans (BA.out.mono HT.out.2.2.2.2.size)
      go_wp2_with fail
      go_ret
      exact ⟨rfl, HE.out⟩
    have tn : (i : Int) < (n : Int) := by omega
    have i0 : (0 : Int) ≤ (i : Int) := by omega
    obtain ⟨b, o, ⟨kd, k, v⟩, rfl, hx, hwf, hc0, hc1, hc2⟩ := (HA.out.below hb).at_ hlt
    have HWF := Lib.hid hwf
    obtain ⟨z, hz⟩ : ∃ z, z = wr.heap.size := ⟨_, rfl⟩
    obtain ⟨wb, hwb⟩ : ∃ wb, wb = wr.alloc (.cells #[.int .i64 kd, .int .i64 k, .string v] 32) := ⟨_, rfl⟩
    have hcz : wb.heap[z]? = some (.cells #[.int .i64 kd, .int .i64 k, .string v] 32) := by rw [hwb, hz]; exact heap_alloc_new wr _
    have hbb : Below wr.heap.size wr wb := by rw [hwb]; exact (Below.refl _ _).alloc (Nat.le_refl _) _
    have e1 : wb.cell? ⟨z, 1, none⟩ = some (.int .i64 k) := by simp [World.cell?, hcz]
    have e2 : wb.cell? ⟨z, 2, none⟩ = some (.string v) := by simp [World.cell?, hcz]
    have HZ := Lib.hid (And.intro e1 e2)
    have hzs : z < wb.heap.size := World.block_lt_of_cell? wb ⟨z, 1, none⟩ e1
    have hzg : z ≠ g1 := by have := hT.lt; omega
    have HUZ : Hid (Ut w.heap.size wb g2 z lu) := hU.new hbb (by omega) hzs
    have HB : Hid (nTSt w.heap.size wb g1 i T ∧ Ut w.heap.size wb g2 g1 lu ∧ Below w.heap.size w wb) := ⟨hT.below hbb, hU.below hbb, hb.trans (hbb.mono hb.size)⟩
    have HZG := Lib.hid hzg
    have HN : Hid (n ≤ 500 ∧ i < n) := ⟨hn3, hlt⟩
    clear hT hU hI hl hb hx hwf hcz hbb hzs hzg e1 e2
    by_cases hk0 : kd = 0
    · subst hk0
      go_wp2_with fail
      rw [← hz, ← hwb]
      have hss : ((T k).isSome != (T k).isSome) = false := by simp
      have C1 := Lib.hid (nput_any wb.drew k v HWF.out (by have := HN.out; omega : i < 100000) (HB.out.1.below (W := wb.drew) ⟨rfl, rfl, rfl, Nat.le_refl _, fun _ _ => rfl⟩) HB.out.2.2.size)
      have HUd : Hid (Ut w.heap.size wb.drew g2 g1 lu ∧ Ut w.heap.size wb.drew g2 z lu) := ⟨HB.out.2.1.below ⟨rfl, rfl, rfl, Nat.le_refl _, fun _ _ => rfl⟩, HUZ.out.below ⟨rfl, rfl, rfl, Nat.le_refl _, fun _ _ => rfl⟩⟩
      have HBd : Hid (Below w.heap.size w wb.drew) := HB.out.2.2.drew
      clear HB HUZ hz hwb
      go_region_held3 (fun W => W.cell? ⟨z, 1, none⟩ = some (.int .i64 k) ∧ W.cell? ⟨z, 2, none⟩ = some (.string v))
        (first | (exact HZ.out) | (exact HD.out) | (exact HD3.out) | fail)
        (first
          | (go_at_call 9; refine C1.out.mono ?_; rintro e w2 ⟨rfl, hT2, hk2⟩
             have HD : Hid (w2.cell? ⟨z, 1, none⟩ = some (.int .i64 k) ∧ w2.cell? ⟨z, 2, none⟩ = some (.string v)) := ⟨hk2.cell (p := ⟨z, 1, none⟩) HZG.out HZ.out.1, hk2.cell (p := ⟨z, 2, none⟩) HZG.out HZ.out.2⟩
             have HU2 : Hid (Ut w.heap.size w2 g2 g1 lu ∧ Ut w.heap.size w2 g2 z lu) := ⟨HUd.out.1.kpq hk2, HUd.out.1.kp2 HUd.out.2 hk2⟩
             have H2 := Lib.hid (And.intro hT2 (HBd.out.trans hk2.below))
             have C2 := Lib.hid (uput_any w2 k v H2.out.2.size HU2.out.1 (by have := HT.out.2.2.2.1; have := HN.out; omega))
             clear hT2 hk2)
          | (go_at_call 10; refine C2.out.mono ?_; intro e w3 hp
             obtain ⟨he, hs⟩ := BtS.put H2.out.1 HU2.out.1 HT.out.2.2.1 HT.out.2.2.2.1 H2.out.2 hp
             subst he
             have HD3 : Hid (w3.cell? ⟨z, 1, none⟩ = some (.int .i64 k) ∧ w3.cell? ⟨z, 2, none⟩ = some (.string v)) := by
               obtain ⟨_, _, _, _, _, r, hr, hk3⟩ := hp
               exact ⟨hk3.cell (p := ⟨z, 1, none⟩) (HU2.out.2.far hr).symm HD.out.1, hk3.cell (p := ⟨z, 2, none⟩) (HU2.out.2.far hr).symm HD.out.2⟩
             have HS := Lib.hid hs
             clear hp hs)
          | fail)
      go_wp2_with fail
      go_roundw
      case rel => exact ⟨i + 1, by have := HN.out; omega, by simp, HS.out⟩
      case measure => simp [intOf]; have := HN.out; omega
    have tk0 : (kd == 0) = false := by simpa using hk0
    by_cases hk1 : kd = 1
    · subst hk1
      go_wp2_with fail
      rw [← hz, ← hwb]
      have hss : ((T k).isSome != (T k).isSome) = false := by simp
      have C1 := Lib.hid (ndel_any wb.drew k HWF.out (HB.out.1.below (W := wb.drew) ⟨rfl, rfl, rfl, Nat.le_refl _, fun _ _ => rfl⟩) HB.out.2.2.size)
      have HUd : Hid (Ut w.heap.size wb.drew g2 g1 lu ∧ Ut w.heap.size wb.drew g2 z lu) := ⟨HB.out.2.1.below ⟨rfl, rfl, rfl, Nat.le_refl _, fun _ _ => rfl⟩, HUZ.out.below ⟨rfl, rfl, rfl, Nat.le_refl _, fun _ _ => rfl⟩⟩
      have HBd : Hid (Below w.heap.size w wb.drew) := HB.out.2.2.drew
      clear HB HUZ hz hwb
      go_region_held3 (fun W => W.cell? ⟨z, 1, none⟩ = some (.int .i64 k) ∧ W.cell? ⟨z, 2, none⟩ = some (.string v))
        (first | (exact HZ.out) | (exact HD.out) | (exact HD3.out) | fail)
        (first
          | (go_at_call 11; refine C1.out.mono ?_; rintro e w2 ⟨rfl, hT2, hk2⟩
             have HD : Hid (w2.cell? ⟨z, 1, none⟩ = some (.int .i64 k) ∧ w2.cell? ⟨z, 2, none⟩ = some (.string v)) := ⟨hk2.cell (p := ⟨z, 1, none⟩) HZG.out HZ.out.1, hk2.cell (p := ⟨z, 2, none⟩) HZG.out HZ.out.2⟩
             have HU2 : Hid (Ut w.heap.size w2 g2 g1 lu ∧ Ut w.heap.size w2 g2 z lu) := ⟨HUd.out.1.kpq hk2, HUd.out.1.kp2 HUd.out.2 hk2⟩
             have H2 := Lib.hid (And.intro hT2 (HBd.out.trans hk2.below))
             have C2 := Lib.hid (udel_any w2 k H2.out.2.size HU2.out.1 (by have := HT.out.2.2.2.1; have := HN.out; omega))
             clear hT2 hk2)
          | (go_at_call 12; refine C2.out.mono ?_; intro e w3 hp
             obtain ⟨he, hs⟩ := BtS.del H2.out.1 HU2.out.1 HT.out.2.2.1 HT.out.2.2.2.1 H2.out.2 hp
             subst he
             have HD3 : Hid (w3.cell? ⟨z, 1, none⟩ = some (.int .i64 k) ∧ w3.cell? ⟨z, 2, none⟩ = some (.string v)) := by
               obtain ⟨_, _, _, _, _, hk3⟩ := hp
               exact ⟨hk3.cell (p := ⟨z, 1, none⟩) HU2.out.2.ne.symm HD.out.1, hk3.cell (p := ⟨z, 2, none⟩) HU2.out.2.ne.symm HD.out.2⟩
             have HS := Lib.hid hs
             clear hp hs)
          | fail)
      go_wp2_with fail
      go_roundw
      case rel => exact ⟨i + 1, by have := HN.out; omega, by simp, HS.out⟩
      case measure => simp [intOf]; have := HN.out; omega
    have tk1 : (kd == 1) = false := by simpa using hk1
    go_wp2_with fail
    rw [← hz, ← hwb]
    clear hz hwb HUZ
    obtain ⟨s, hs⟩ : ∃ s, s = (T k).isSome := ⟨_, rfl⟩
    obtain ⟨x, hx⟩ : ∃ x, x = (T k).getD ⟨#[]⟩ := ⟨_, rfl⟩
    have HX := Lib.hid (And.intro hs hx)
    have hss : (s != s) = false := by simp
    have C1 : Hid (Calls Try.prog 13 #[.pointer (some ⟨g1, 0, none⟩), .int .i64 k] wb fun e w' => e = .returned (.tuple #[.string x, .bool s]) ∧ Below wb.heap.size wb w') := by
      have h := nget_any wb k HWF.out HB.out.1
      rw [← hs, ← hx] at h
      exact h
    clear hs hx
    refine C1.out.mono ?_
    rintro e w2 ⟨rfl, hb2⟩
    have e1 : w2.cell? ⟨z, 1, none⟩ = some (.int .i64 k) := (hb2.cell (p := ⟨z, 1, none⟩) (World.block_lt_of_cell? wb ⟨z, 1, none⟩ HZ.out.1)).trans HZ.out.1
    have H2 := Lib.hid (And.intro (HB.out.1.below hb2) (And.intro (HB.out.2.1.below hb2) (HB.out.2.2.trans (hb2.mono HB.out.2.2.size))))
    have C2 : Hid (Calls Try.prog 14 #[.pointer (some ⟨g2, 0, none⟩), .int .i64 k] w2 fun e w' => e = .returned (.tuple #[.string x, .bool s]) ∧ Below w2.heap.size w2 w') := by
      refine (uget_any w2 k H2.out.2.2.size H2.out.2.1 (by have := HT.out.2.2.2.1; have := HN.out; omega)).mono fun e w3 hp => ?_
      have h := GetU.is HT.out.2.2.1 hp
      rw [← HX.out.1, ← HX.out.2] at h
      exact h
    clear hb2 HB C1
    go_wp2_with fail
    refine C2.out.mono ?_
    rintro e w3 ⟨rfl, hb3⟩
    have HS : Hid (BtS w w3 g1 g2 (i + 1)) := ⟨T, lu, (H2.out.1.below hb3).mono (Nat.le_succ i), H2.out.2.1.below hb3, HT.out.2.2.1, Nat.le_trans HT.out.2.2.2.1 (Nat.le_succ i), H2.out.2.2.trans (hb3.mono H2.out.2.2.size)⟩
    clear hb3 e1
    go_wp2_with fail
    go_roundw
    case rel => exact ⟨i + 1, by have := HN.out; omega, by simp, HS.out⟩
    case measure => simp [intOf]; have := HN.out; omega
end Go.Proofs.Ytkflekaibfkicaa
