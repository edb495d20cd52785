/- What write of layer 5 returns; Encode of layer 3 with its slice as one's own. -/
import Derived.Test.YtbdjkihgcmebgaaGreatDoorRBlkD
import Derived.Test.YtbdjkihgcmebgaaGreatDoorRKEnc
import Derived.Laws.CopyOwn
namespace Go.Proofs.YtbdjkihgcmebgaaGreatDoor
open Go.RowKit

theorem Ob.low {w : World} {base base' : Nat} {t : TypeId} {v : Value} {l : List UInt8} (h : Ob w base t v l) (hb : base' ≤ base) : Ob w base' t v l :=
  ⟨h.1, h.2.imp id fun ⟨g, cap, cur, hv, h1, r⟩ => ⟨g, cap, cur, hv, Nat.le_trans hb h1, r⟩⟩

set_option maxRecDepth 100000 in
set_option maxHeartbeats 2000000 in
theorem cencodeO_any (x : Itm) (v : Value) (w : World) (B : Nat) (hf : Fits x) (hlen : (wri x).length ≤ 140737488355328) (hB : B ≤ w.heap.size) (h : RdI w B v x) :
    Calls Tryz.prog 31 #[v] w fun e w' => ∃ v', e = .returned (.tuple #[v', .int .i64 0]) ∧ Ob w' w.heap.size 5 v' (wri x) ∧ Below w.heap.size w w' := by
  obtain ⟨k, n, d, l⟩ := x
  have HX := Lib.hid h
  obtain ⟨A, nd, cd, AL, cl, rfl, h1, h2, h3, h4, h5, h7⟩ := h.open
  generalize hX : Itm.mk k n d l = x at *
  clear hX
  have C1 := Lib.hid (fun W (hb : Below w.heap.size w W) => check_any x _ W B (Nat.le_trans hf.2.2 (by decide)) (Nat.le_trans hB hb.size) (HX.out.below (hb.mono hB)))
  have C3 := Lib.hid (fun W (hb : Below w.heap.size w W) => cwrite_n (par x + 1) x _ (.slice none 0 0) [] W W.heap.size (Nat.lt_succ_self _) hf.1 (by simpa using hlen) (Nat.le_refl _) ((HX.out.below (hb.mono hB)).more (Nat.le_trans hB hb.size)) (Ob.nil_ _ _ _))
  have B0 := Lib.hid ((Below.refl w.heap.size w).alloc (Nat.le_refl _) (.cells #[.int .i64 k, .int .u64 (n : Int), .slice A nd cd, .slice AL l.length cl] 42))
  generalize l.length = N at *
  have hv : chkV x = .nilIface := by unfold chkV; rw [if_neg (by rw [hf.1]; decide), if_neg (by have := hf.2; omega)]
  rw [hv] at C1
  clear h1 h4 h7 h hlen hv hf
  generalize hWX : wri x = WX at *
  go_enter Tryz.func31, Tryz.ntmps31
  go_wp2_with fail
  refine (C1.out _ B0.out).mono ?_
  rintro e w1 ⟨rfl, hb1⟩
  have HB1 := Lib.hid (B0.out.trans (hb1.mono B0.out.size))
  obtain ⟨q0, q1, q2, q3⟩ := box_cells (to_box hb1)
  clear hb1
  go_wp2_with fail
  refine (C3.out _ HB1.out).mono ?_
  rintro e w2 ⟨v, rfl, ho, hr⟩
  rw [List.nil_append] at ho
  have HO := Lib.hid (ho.low HB1.out.size)
  obtain ⟨A2, c2, rfl, hc2, hm2, hr2⟩ := ho.rd
  have HB2 := Lib.hid (HB1.out.trans ((hr.below (Ob.nil_ _ w1.heap.size 5) (Nat.le_refl _)).mono HB1.out.size))
  clear ho hr2 hr q0 q1 q2 q3
  go_wp2_with fail
  go_ret2
  exact ⟨_, rfl, HO.out, HB2.out⟩

/-- 'b[k:]' of an own slice: where something is left it begins at the k-th cell. -/
theorem cut_own {P : Program} (t e : TypeId) (ht : P.underlying t = some (.slice e)) (hz : ∀ W : World, (sizeOf e).run P W = .ok 1 W) (g n c k : Nat) (hk : k ≤ n) (hc : n ≤ c) :
    ∃ A' c', (∀ W : World, (Instr.slice t (.slice (some ⟨g, 0, none⟩) n c) (some (.int .i64 (k : Int))) none none).run P W = .ok (.slice A' (n - k) c') W) ∧ (k < n → A' = some ⟨g, k, none⟩) := by
  by_cases hck : c = k
  · refine ⟨some ⟨g, 0, none⟩, c - k, fun W => ?_, fun h => absurd h (by omega)⟩
    subst hck
    go_simp
  · refine ⟨(some (⟨g, 0, none⟩ : Addr)).map (·.add k), c - k, fun W => ?_, fun _ => ?_⟩
    · go_simp
    · unfold Addr.add
      by_cases h0 : k = 0
      · subst h0; simp
      · simp [h0]

/-- The last s of n bytes laid anew. -/
theorem Ob.tail {w w' : World} {base g n cap m : Nat} {t : TypeId} {l s : List UInt8} {cur : Array Value} (h : Ob w base t (.slice (some ⟨g, 0, none⟩) n cap) l) (hg : w.heap[g]? = some (.cells cur t (0, 0)))
    (hl : l.length = n) (hn : m + s.length = n) (hw : w'.heap[g]? = some (.cells (splice cur.toList m (s.map bv)).toArray t (0, 0))) : Ob w' base t (.slice (some ⟨g, 0, none⟩) n cap) (l.take m ++ s) := by
  rcases h.2 with ⟨hv, _⟩ | ⟨g', cap', cur', hv, hb, hg', hnc, hcm, hcs, ht⟩
  · cases hv
  · cases hv
    rw [hg] at hg'
    cases hg'
    rw [Nat.mul_one] at ht
    rw [Nat.mul_one] at hcs
    have e9 : cur.toList.length = cur.size := Array.length_toList
    have hlen : (l.take m ++ s).length = l.length := by rw [List.length_append, List.length_take]; omega
    refine ⟨by rw [List.length_map, Nat.mul_one], .inr ⟨g, cap, (splice cur.toList m (s.map bv)).toArray, by rw [hlen], hb, hw, by rw [hlen]; omega, hcm, ?_, ?_⟩⟩
    · rw [List.size_toArray, length_splice _ _ _ (by rw [List.length_map, e9, hcs]; omega), e9, hcs, Nat.mul_one]
    · rw [hlen, Nat.mul_one]
      unfold splice
      rw [List.length_map, hn]
      have hcur : cur.toList.take m = (l.take m).map bv := by
        rw [List.map_take, ← ht, List.take_take, Nat.min_eq_left (by omega)]
      rw [hcur, ← List.append_assoc, List.take_left' (by rw [List.length_append, List.length_map, List.length_take, List.length_map]; omega), List.map_append]

/-- What an own slice of some bytes lies in. -/
theorem Ob.cur {w : World} {base : Nat} {t : TypeId} {v : Value} {l : List UInt8} (h : Ob w base t v l) (h0 : 0 < l.length) : ∃ g cap cur, v = .slice (some ⟨g, 0, none⟩) l.length cap ∧ base ≤ g ∧ l.length ≤ cap ∧ w.heap[g]? = some (.cells cur t (0, 0)) ∧ cur.size = cap := by
  rcases h.2 with ⟨_, hn⟩ | ⟨g, cap, cur, hv, hb, hg, hnc, hcm, hcs, ht⟩
  · omega
  · exact ⟨g, cap, cur, hv, hb, hnc, hg, by rwa [Nat.mul_one] at hcs⟩

theorem bitem_any (b : Blk) (A : Option Addr) (nd cd B : Nat) (w : World) (hb : Bd b) (hc : 0 ≤ b.crc ∧ b.crc ≤ 2) (hB : B ≤ w.heap.size) (h : Rd w B A nd b.dat) (hnd : nd ≤ 140737488355328) :
    Calls Tryz.prog 37 #[blkV b.typ b.num b.flg b.crc A nd cd] w (GivesL w.heap.size (itmB b (nulls b)) w) := by
  obtain ⟨t, n, f, c, d⟩ := b
  have h3 : c = 0 ∨ c = 1 ∨ c = 2 := by have := hc.1; have := hc.2; simp only at *; omega
  rcases h3 with rfl | rfl | rfl
  · exact bitem_0 t n f A nd cd B d w hb.1 hb.2.1 hb.2.2 hB h hnd
  · exact bitem_1 t n f A nd cd B d w hb.1 hb.2.1 hb.2.2 hB h hnd
  · exact bitem_2 t n f A nd cd B d w hb.1 hb.2.1 hb.2.2 hB h hnd

set_option maxRecDepth 100000 in
set_option maxHeartbeats 4000000 in
theorem bwrite_any (b : Blk) (A : Option Addr) (nd cd B : Nat) (w : World) (hok : blkOk b = true) (hb : Bd b) (hB : B ≤ w.heap.size) (h : Rd w B A nd b.dat) :
    Calls Tryz.prog 26 #[blkV b.typ b.num b.flg b.crc A nd cd] w (GivesO 5 (blkW b) w) := by
  obtain ⟨-, -, -, hc, hd⟩ := blkOk_iff.1 hok
  have hnd : nd ≤ 4096 := by rw [← h.1]; exact hd
  have hB1 := (Below.refl w.heap.size w).alloc (Nat.le_refl _) (.cells #[.int .u64 (b.typ : Int), .int .u64 (b.num : Int), .int .u64 (b.flg : Int), .int .i64 b.crc, .slice A nd cd] 25)
  have C1 := Lib.hid (bitem_any b A nd cd B (w.alloc (.cells #[.int .u64 (b.typ : Int), .int .u64 (b.num : Int), .int .u64 (b.flg : Int), .int .i64 b.crc, .slice A nd cd] 25)) hb hc (Nat.le_trans hB (le_alloc _ _)) (h.alloc hB _) (by omega))
  have hw := wri_itm b (nulls b) (nulls_len b) hc
  have hF := itm_fits b (nulls b)
  have hbl := body_len b
  have hbp := body_pos b
  have hs4 := sumN_le b.crc
  have hn0 := nulls_len b
  have hll : (wri (itmB b (nulls b))).length ≤ 140737488355328 := by rw [hw, List.length_append, hn0]; omega
  have C2 := Lib.hid (fun v W (hr : RdI W W.heap.size v (itmB b (nulls b))) => cencodeO_any (itmB b (nulls b)) v W W.heap.size hF hll (Nat.le_refl _) hr)
  rw [hw] at C2
  have C3 := Lib.hid (fun (A : Option Addr) (n c : Nat) (W : World) (hr : Rd W W.heap.size A n (bodyB b ++ nulls b)) (hn : n ≤ 140737488355328) => bytes_any b.crc A n c W.heap.size (bodyB b ++ nulls b) W hr hn)
  have HS : Hid (crcBytes b.crc (bodyB b ++ nulls b) = sumB b) := rfl
  rw [HS.out] at C3
  have HSL := Lib.hid (sumB_len b)
  have HW0 : Hid (blkW b = bodyB b ++ sumB b) := rfl
  rw [HW0.out]
  have HLL : Hid ((bodyB b ++ nulls b).length = (bodyB b).length + sumN b.crc) := by show _ = _; rw [List.length_append, hn0]
  obtain ⟨M, hM⟩ : ∃ M, M = (bodyB b).length := ⟨_, rfl⟩
  rw [← hM] at HLL hbl hbp
  have HM := Lib.hid hM
  have HBD := Lib.hid (And.intro hbl (And.intro hbp (And.intro hs4 hd)))
  have HB1 := Lib.hid hB1
  generalize hT : b.typ = T at *
  generalize hN : b.num = N at *
  generalize hF2 : b.flg = F at *
  generalize sumB b = SB at *
  generalize bodyB b = BB at *
  generalize nulls b = NL at *
  generalize hS : sumN b.crc = S at *
  generalize hC : b.crc = CR at *
  clear hok hb hB h hc hd hnd hB1 hw hF hbl hbp hs4 hn0 hll hM hT hN hF2 hS hC HS HW0
  unfold blkV at *
  go_enter Tryz.func26, Tryz.ntmps26
  go_wp2_with fail
  refine C1.out.mono ?_
  rintro e w1 ⟨v1, rfl, hv1, hb1⟩
  obtain ⟨k1, n1, A1, nd1, cd1, AL1, nl1, cl1, rfl⟩ := hv1.form
  obtain ⟨x0, x1, x2, x3, x4⟩ := box5 rfl (hb1.mono (show w.heap.size + 1 ≤ _ by simp))
  have B1 := Lib.hid (HB1.out.trans (hb1.mono (le_alloc _ _)))
  have HX3 := Lib.hid x3
  have HLT : Hid (w.heap.size < w1.heap.size) := by show _ < _; have := hb1.size; simp at this; omega
  have HV1 := Lib.hid hv1.unmask
  clear hb1 hv1 x0 x1 x2 x3 x4 C1
  go_wp2_with fail
  refine (C2.out _ _ HV1.out).mono ?_
  rintro e w2 ⟨v2, rfl, ho2, hb2⟩
  obtain ⟨g, cap, cur, rfl, hg1, hg2, hg3, hg4⟩ := ho2.cur (by rw [HLL.out]; have := HBD.out; omega)
  rw [HLL.out] at ho2 hg2 ⊢
  have x3 := (hb2.cell (p := ⟨w.heap.size, 3, none⟩) HLT.out).trans HX3.out
  have B2 := Lib.hid (B1.out.trans (hb2.mono B1.out.size))
  have O2 := Lib.hid ho2
  have G2 := Lib.hid (And.intro hg1 (And.intro hg2 (And.intro hg3 hg4)))
  have C3' := Lib.hid (C3.out (some ⟨g, 0, none⟩) (M + S) cap w2 ho2.rd_.2.1 (by have := HBD.out; omega))
  clear ho2 hb2 hg1 hg2 hg3 hg4 C2 C3
  go_wp2_with fail
  refine C3'.out.mono ?_
  rintro e w3 ⟨A3, n3, c3, rfl, hr3, hc3, hb3⟩
  obtain rfl : S = n3 := by have := hr3.1; have := HSL.out; omega
  obtain ⟨A4, c4, hcut, hA4⟩ := cut_own (P := Tryz.prog) 22 5 Tryz.underlying22 size_u8 g (M + S) cap M (by omega) G2.out.2.1
  rw [show M + S - M = S by omega] at hcut
  have HCUT := Lib.hid hcut
  have hsz := info_u8
  have B3 := Lib.hid (B2.out.trans (hb3.mono B2.out.size))
  have O3 := Lib.hid (O2.out.below hb3)
  have hz1 : ((Tryz.prog.info? 5).map (·.size)) = some 1 := by kernel_rfl
  have HZ1 := Lib.hid hz1
  have G3 : Hid (w3.heap[g]? = some (.cells cur.toList.toArray 5 (0, 0))) := by
    show _ = _
    rw [hb3.block g (World.ownsRow.lt O2.out g rfl).2, G2.out.2.2.1]
  have POS : Hid (0 < (SB.map bv).length → A4 = some ⟨g, M, none⟩ ∧ ∃ ad, A3 = some ad ∧ ∀ j v, (SB.map bv)[j]? = some v → w3.cell? (ad.add j) = some v) := fun h0 => by
    rw [List.length_map, HSL.out] at h0
    refine ⟨hA4 (by omega), ?_⟩
    obtain ⟨b3, o3, e3, -, hc⟩ := hr3.2 h0
    refine ⟨_, e3, fun j v hj => ?_⟩
    have hjl : j < S := by
      rcases Nat.lt_or_ge j S with h | h
      · exact h
      · rw [List.getElem?_eq_none (by rw [List.length_map, HSL.out]; exact h)] at hj; cases hj
    rw [show (⟨b3, o3, none⟩ : Addr).add j = ⟨b3, o3 + j, none⟩ by unfold Addr.add; split <;> simp_all, hc j hjl]
    have hjs : j < SB.length := by rw [HSL.out]; exact hjl
    rw [List.getElem?_map, List.getElem?_eq_getElem hjs] at hj
    simp only [List.getD, List.getElem?_eq_getElem hjs, Option.getD_some]
    exact hj
  have ONE : Hid (∀ v ∈ SB.map bv, v.oneCell' = true) := bv_one SB
  have FIT : Hid (M + (SB.map bv).length ≤ cur.toList.length) := by
    show _ ≤ _
    rw [List.length_map, HSL.out, Array.length_toList, G2.out.2.2.2]
    exact G2.out.2.1
  have MIN : Hid ((SB.map bv).length = Nat.min S S) := by show _ = _; rw [List.length_map, HSL.out]; exact (Nat.min_self S).symm
  have HBG : Hid (w.heap.size ≤ g) := Nat.le_trans B1.out.size G2.out.1
  have hwr : wrap64 (M : Int) = (M : Int) := by have := HBD.out; unfold wrap64; omega
  clear hb3 hr3 hc3 hA4 hsz hz1 C3'
  go_wp2_with (first
    | (refine wpList_copy_splice rfl (.tmp 22) (.tmp 23) 22 22 rfl 5 Tryz.underlying22 HZ1.out A4 A3 S c4 S c3 rfl rfl g M cur.toList 5 G3.out (SB.map bv) MIN.out POS.out FIT.out ONE.out w.heap.size w B3.out HBG.out ?_; intro w4 hw4 hb4; have B4 := Lib.hid hb4; clear hb4)
    | fail)
  go_ret
  have g3 : w3.heap[g]? = some (.cells cur 5 (0, 0)) := by simpa using G3.out
  have ht := O3.out.tail (s := SB) (m := M) g3 HLL.out (by rw [HSL.out]) hw4.out
  rw [show (BB ++ NL).take M = BB by rw [HM.out, List.take_left]] at ht
  exact ⟨_, rfl, ht.low B1.out.size, B4.out⟩
end Go.Proofs.YtbdjkihgcmebgaaGreatDoor
