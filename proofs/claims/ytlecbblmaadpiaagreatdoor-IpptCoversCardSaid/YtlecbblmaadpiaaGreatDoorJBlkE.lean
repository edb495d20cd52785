/- What write of layer 5 returns; Encode of layer 3 with its slice as one's own. -/
import Derived.Test.YtlecbblmaadpiaaGreatDoorJBlkD
import Derived.Test.YtlecbblmaadpiaaGreatDoorJKRd
import Derived.Laws.CopyOwn
namespace Go.Proofs.YtlecbblmaadpiaaGreatDoor
open Go.RowKit
theorem Ob.low {w : World} {base base' : Nat} {t : TypeId} {v : Value} {l : List UInt8} (h : Ob w base t v l) (hb : base' ≤ base) : Ob w base' t v l :=
  ⟨h.1, h.2.imp id fun ⟨g, cap, cur, hv, h1, r⟩ => ⟨g, cap, cur, hv, Nat.le_trans hb h1, r⟩⟩
set_option maxRecDepth 100000 in
set_option maxHeartbeats 2000000 in
theorem cencodeO_any (x : Itm) (v : Value) (w : World) (B : Nat) (hf : Fits x) (hlen : (wri x).length ≤ 140737488355328) (hB : B ≤ w.heap.size) (h : RdI w B v x) :
    Calls Tryz.prog 87 #[v] w fun e w' => ∃ v', e = .returned (.tuple #[v', .int .i64 0]) ∧ Ob w' w.heap.size 5 v' (wri x) ∧ Below w.heap.size w w' := by
  obtain ⟨k, n, d, l⟩ := x
  have HX := Lib.hid h
  obtain ⟨A, nd, cd, AL, cl, rfl, h1, h2, h3, h4, h5, h7⟩ := h.open
  generalize hX : Itm.mk k n d l = x at *
  clear hX
  have C1 := Lib.hid (fun W (hb : Below w.heap.size w W) => check_any x _ W B (Nat.le_trans hf.2.2 (by decide)) (Nat.le_trans hB hb.size) (HX.out.below (hb.mono hB)))
  have C3 := Lib.hid (fun W (hb : Below w.heap.size w W) => cwrite_n (par x + 1) x _ (.slice none 0 0) [] W W.heap.size (Nat.lt_succ_self _) hf.1 (by simpa using hlen) (Nat.le_refl _) ((HX.out.below (hb.mono hB)).more (Nat.le_trans hB hb.size)) (Ob.nil_ _ _ _))
  have B0 := Lib.hid ((Below.refl w.heap.size w).alloc (Nat.le_refl _) (.cells #[.int .i64 k, .int .u64 (n : Int), .slice A nd cd, .slice AL l.length cl] 30))
  generalize l.length = N at *
  have hv : chkV x = .nilIface := by unfold chkV; rw [if_neg (by rw [hf.1]; decide), if_neg (by have := hf.2; omega)]
  rw [hv] at C1
  clear h1 h4 h7 h hlen hv hf
  generalize hWX : wri x = WX at *
  go_enter Tryz.func87, Tryz.ntmps87
  go_wp2_with fail
  refine (C1.out _ B0.out).mono ?_
  rintro e w1 ⟨rfl, hb1⟩
  have HB1 := Lib.hid (B0.out.trans (hb1.mono B0.out.size))
  obtain ⟨q0, q1, q2, q3⟩ := box_cells (to_box hb1)
  clear hb1
  go_wp2_with fail
  refine (C3.out _ HB1.out).mono ?_
  rintro e w2 ⟨v, rfl, ho, hr⟩
  rw [List.nil_append] at ho
  have HO := Lib.hid (ho.low HB1.out.size)
  obtain ⟨A2, c2, rfl, hc2, hm2, hr2⟩ := ho.rd
  have HB2 := Lib.hid (HB1.out.trans ((hr.below (Ob.nil_ _ w1.heap.size 5) (Nat.le_refl _)).mono HB1.out.size))
  clear ho hr2 hr q0 q1 q2 q3
  go_wp2_with fail
  go_ret2
  exact ⟨_, rfl, HO.out, HB2.out⟩
theorem cut_own {P : Program} (t e : TypeId) (ht : P.underlying t = some (.slice e)) (hz : ∀ W : World, (sizeOf e).run P W = .ok 1 W) (g n c k : Nat) (hk : k ≤ n) (hc : n ≤ c) :
    ∃ A' c', (∀ W : World, (Instr.slice t (.slice (some ⟨g, 0, none⟩) n c) (some (.int .i64 (k : Int))) none none).run P W = .ok (.slice A' (n - k) c') W) ∧ (k < n → A' = some ⟨g, k, none⟩) := by
  by_cases hck : c = k
  · refine ⟨some ⟨g, 0, none⟩, c - k, fun W => ?_, fun h => absurd h (by omega)⟩
    subst hck
    go_simp
  · refine ⟨(some (⟨g, 0, none⟩ : Addr)).map (·.add k), c - k, fun W => ?_, fun _ => ?_⟩
    · go_simp
    · unfold Addr.add
      by_cases h0 : k = 0
      · subst h0; simp
      · simp [h0]
theorem Ob.tail {w w' : World} {base g n cap m : Nat} {t : TypeId} {l s : List UInt8} {cur : Array Value} (h : Ob w base t (.slice (some ⟨g, 0, none⟩) n cap) l) (hg : w.heap[g]? = some (.cells cur t (0, 0)))
    (hl : l.length = n) (hn : m + s.length = n) (hw : w'.heap[g]? = some (.cells (splice cur.toList m (s.map bv)).toArray t (0, 0))) : Ob w' base t (.slice (some ⟨g, 0, none⟩) n cap) (l.take m ++ s) := by
  rcases h.2 with ⟨hv, _⟩ | ⟨g', cap', cur', hv, hb, hg', hnc, hcm, hcs, ht⟩
  · cases hv
  · cases hv
    rw [hg] at hg'
    cases hg'
    rw [Nat.mul_one] at ht
    rw [Nat.mul_one] at hcs
    have e9 : cur.toList.length = cur.size := Array.length_toList
    have hlen : (l.take m ++ s).length = l.length := by rw [List.length_append, List.length_take]; omega
    refine ⟨by rw [List.length_map, Nat.mul_one], .inr ⟨g, cap, (splice cur.toList m (s.map bv)).toArray, by rw [hlen], hb, hw, by rw [hlen]; omega, hcm, ?_, ?_⟩⟩
    · rw [List.size_toArray, length_splice _ _ _ (by rw [List.length_map, e9, hcs]; omega), e9, hcs, Nat.mul_one]
    · rw [hlen, Nat.mul_one]
      unfold splice
      rw [List.length_map, hn]
      have hcur : cur.toList.take m = (l.take m).map bv := by
        rw [List.map_take, ← ht, List.take_take, Nat.min_eq_left (by omega)]
      rw [hcur, ← List.append_assoc, List.take_left' (by rw [List.length_append, List.length_map, List.length_take, List.length_map]; omega), List.map_append]
theorem Ob.cur {w : World} {base : Nat} {t : TypeId} {v : Value} {l : List UInt8} (h : Ob w base t v l) (h0 : 0 < l.length) : ∃ g cap cur, v = .slice (some ⟨g, 0, none⟩) l.length cap ∧ base ≤ g ∧ l.length ≤ cap ∧ w.heap[g]? = some (.cells cur t (0, 0)) ∧ cur.size = cap := by
  rcases h.2 with ⟨_, hn⟩ | ⟨g, cap, cur, hv, hb, hg, hnc, hcm, hcs, ht⟩
  · omega
  · exact ⟨g, cap, cur, hv, hb, hnc, hg, by rwa [Nat.mul_one] at hcs⟩
end Go.Proofs.YtlecbblmaadpiaaGreatDoor
