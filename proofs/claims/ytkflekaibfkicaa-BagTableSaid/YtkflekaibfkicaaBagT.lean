/- Keys of tables from Int to ByteArray. (Made by gen/bagt.py.) -/
import Derived.Test.YtkflekaibfkicaaBagN
import Derived.Test.YtkflekaibfkicaaBagS0
import Derived.Sort.OwnSortedInts
namespace Go.Proofs.Ytkflekaibfkicaa
open Go.RowKit Go.Maps Go.Sort

/-- The sort of a row of one's own. -/
theorem sort_own (w : World) {base g cap n : Nat} {ks : List Int} (h : Ov w base 3 (.slice (some ⟨g, 0, none⟩) n cap) (ks.map (Value.int .i64))) (hn : n = ks.length) (hk : ks.length ≤ 1000000) :
    Calls Try.prog 29 #[.slice (some ⟨g, 0, none⟩) n cap] w fun e w' => e = .returned (.tuple #[]) ∧ Ov w' base 3 (.slice (some ⟨g, 0, none⟩) n cap) ((ks.mergeSort fun x y => decide (x ≤ y)).map (Value.int .i64)) ∧ w.grownBy w' (some g) := by
  subst hn
  have hl : (ks.map (Value.int .i64)).length = ks.length := List.length_map ..
  have h0 := h
  unfold Ov at h0
  rw [hl] at h0
  rcases h0.2 with ⟨hnil, _⟩ | ⟨g', cap', cur, hv, hbase, hb, h1, h2, h3, h4⟩
  · cases hnil
  cases hv
  have hH : Holds (Value.int .i64) w g 0 ks.toArray := holds_of_blockI hb (by simpa using h4)
  refine (Try.slices_Sort_int g 0 cap ks w hH (Array.getElem?_eq_some_iff.1 hb).1 (by omega)).mono ?_
  rintro e w' ⟨rfl, nn, os, rfl⟩
  refine ⟨rfl, ?_, grownBy_sortedI _⟩
  have := ownsRow_sortedI (n := nn) (os := os) (ss := ks) (ts := ks.mergeSort fun x y => decide (x ≤ y)) (by simp) hbase hb h1 h2 h3
  unfold Ov
  simpa using this

set_option maxRecDepth 100000 in
set_option maxHeartbeats 4000000 in
theorem nkeys_map (w : World) {g b N : Nat} {D : DataW Unit} {T : Int → Option ByteArray} (hN : N ≤ 100000) (hc : w.cell? ⟨g, 0, none⟩ = some (.map (some b)))
    (ho : w.ownsMap Try.prog 65 nrd b N D) (hd : DatIs Try.prog 65 nmk nenc D T) :
    Calls Try.prog 16 #[.pointer (some ⟨g, 0, none⟩)] w fun e w' => ∃ (v : Value) (ks : List Int), e = .returned v ∧ Ov w' w.heap.size 3 v (ks.map (Value.int .i64)) ∧ ks.Pairwise (· < ·) ∧ (∀ k, k ∈ ks ↔ (T k).isSome = true) ∧ ks.length ≤ N ∧ Below w.heap.size w w' := by
  have hg := World.block_lt_of_cell? w ⟨g, 0, none⟩ hc
  have hbl := ho.lt
  have hsz := ho.size_le
  have HD := Lib.hid hd
  have HN := Lib.hid hN
  have HC := Lib.hid hc
  have HO := Lib.hid ho
  have hlen := fun ty => ho.len Try.underlying24 ty
  obtain ⟨n, hn⟩ : ∃ n, n = size D := ⟨_, rfl⟩
  rw [← hn] at hlen hsz
  have HS := Lib.hid hsz
  have HNN := Lib.hid hn
  clear hd hN ho hn hsz
  go_enter Try.func16, Try.ntmps16
  go_wp2_with (first
    | (refine wpList_mk0 _ rfl (.const (.int .i64 0)) (.tmp 12) 27 rfl w.heap.size 3 (.int .i64 0) 8 Try.underlying27 info_int (by decide) _ n rfl rfl rfl (by have := HS.out; have := HN.out; omega) (Nat.le_refl _) ?_; intro w1 ho1 hg1; have hc1 := hg1.cell HC.out (by simp); have H1 := Lib.hid (And.intro ho1 hg1); clear ho1 hg1)
    | (at_range; refine wpList_range_own _ rfl _ 24 rfl 65 68 nlaw Try.underlying24 _ b N _ rfl (HO.out.kept H1.out.2 (by simp)) ?_; intro w0 hrg0 hg0 hs0; have H0 := Lib.hid (And.intro hrg0 (And.intro hg0 hs0)); clear hrg0 hg0 hs0)
    | fail)
  try go_frame
  have H1g : Below w.heap.size w w1 := ⟨H1.out.2.os, H1.out.2.tape, H1.out.2.output, H1.out.2.size, fun k hk => H1.out.2.block k hk (by simp)⟩
  have H0g : Below w1.heap.size w1 w0 := ⟨H0.out.2.1.os, H0.out.2.1.tape, H0.out.2.1.output, H0.out.2.1.size, fun k hk => H0.out.2.1.block k hk (by simp)⟩
  have HB1 := Lib.hid (And.intro H1g.size (H1g.trans (H0g.mono H1g.size)))
  clear H1g H0g
  go_loopw [3] (fun v wr => ∃ (left : Lit → Bool) (cnt : Nat) (ks : List Int), wr.ranges Try.prog 65 nrd b w1.heap.size N D left cnt ∧ RgIs Try.prog 65 nmk T left ks ∧ Ov wr w.heap.size 3 v (ks.map (Value.int .i64)) ∧ ks.length + cnt ≤ n ∧ (∃ q, v.ownBlock = some q) ∧ Below w.heap.size w wr)
    (fun _ wr => wr.rangeLeft b w1.heap.size)
  case atStart =>
    refine ⟨_, _, [], H0.out.1, RgIs.start HD.out, ?_, by have := HNN.out; simp; omega, ⟨_, rfl⟩, HB1.out.2⟩
    exact H1.out.1.grown H0.out.2.1 (.inr (by simp [Value.ownBlock]))
  case round =>
    obtain ⟨left, cnt, ks, hrg, hRg, hov, hcn, ⟨q, hq⟩, hB⟩ := hrel
    have HR := Lib.hid (And.intro hrg (And.intro hRg (And.intro hov (And.intro hcn (And.intro hq hB)))))
    obtain ⟨A, cap, rfl⟩ : ∃ A cap, u3 = .slice A ks.length cap := by
      obtain ⟨A, cap, h, -, -⟩ := hov.form
      exact ⟨A, cap, by rw [h, List.length_map]⟩
    clear hRg hov hcn hB H0
    go_wp2_with (first
      | (at_next; refine wpList_next_ranges _ rfl _ rfl 65 nlaw nrd (fun x : Value => x) (fun p : Int × ByteArray => nen p.1 p.2) (fun key kl _ => ⟨key, rfl⟩) (fun v y hv => by obtain ⟨k, x, rfl, -⟩ := nrd_inv hv; exact ⟨(k, x), rfl⟩) b w1.heap.size N D left cnt rfl hrg ?_ ?_)
      | fail)
    · intro hc0 hl0
      have hdone := HR.out.2.1.done HD.out.dom hl0
      have hA : A = some ⟨q, 0, none⟩ := by
        rcases HR.out.2.2.1.2 with ⟨hv, _⟩ | ⟨g', cap', cur, hv, _⟩
        · have h1 := HR.out.2.2.2.2.1
          rw [hv] at h1
          cases h1
        · have h1 := HR.out.2.2.2.2.1
          rw [hv] at h1
          injection h1 with h1
          injection hv with h2 _ _
          rw [h2]
          exact congrArg (fun j => some (⟨j, 0, none⟩ : Addr)) h1
      subst hA
      have hk6 : ks.length ≤ 1000000 := by have := HR.out.2.2.2.1; have := HS.out; have := HN.out; omega
      have C1 := Lib.hid (sort_own wr HR.out.2.2.1 rfl hk6)
      have HE := Lib.hid (And.intro hdone (rise_of_sort ks HR.out.2.1.nodup))
      clear hdone hrg hq
      go_wp2_with (first | (go_at_call 29; refine C1.out.mono ?_; rintro e w5 ⟨rfl, ho5, hg5⟩) | fail)
      go_ret
      refine ⟨_, _, rfl, ho5, HE.out.2.1, fun k => by rw [HE.out.2.2, HE.out.1], ?_, ?_⟩
      · have := HR.out.2.2.2.1; have := HS.out; simp; omega
      · exact HR.out.2.2.2.2.2.grown hg5 HR.out.2.2.2.2.2.size (fun j hj => by injection hj with hj; subst hj; exact (HR.out.2.2.1.lt rfl).1)
    · intro x c1 c2 kl yd yp w2 cnt2 hkey hlk hv hat hrg2 hlt hg2 hs2 hen
      obtain ⟨k, hkk⟩ := HR.out.2.1.key kl hlk
      obtain rfl : x = nmk k := nlaw.inj hkey hkk
      obtain ⟨hstep, hTk, hnk⟩ := HR.out.2.1.step nlaw nmk_inj hkk hlk
      obtain ⟨vT, hvT⟩ := Option.isSome_iff_exists.1 hTk
      have hck : c1 = k := by
        have h1 := (HD.out.at_ k kl hkk).2 vT hvT (.map [])
        rw [hat] at h1
        obtain ⟨k', v', e1, e2⟩ := nrd_inv hv
        injection e2 with e2 _
        rw [e2] at h1
        obtain ⟨h3, -⟩ := nenc_inj h1
        have e3 : nen c1 c2 = nen k' v' := e1
        simp only [nen, Value.agg.injEq] at e3
        have e4 := congrArg (fun a => a[0]?) e3
        simp at e4
        rw [e4, h3]
      subst hck
      have hrow2 := HR.out.2.2.1.grown hg2 (.inr (Go.row_ne_iter HR.out.2.2.1 hrg).symm)
      have H2 := Lib.hid (And.intro hrg2 (And.intro hstep (And.intro hg2 (And.intro hlt hs2))))
      have HRW := Lib.hid hrow2
      have HLL := Lib.hid hrg.left_eq
      have HL6 : Hid ((ks.map (Value.int .i64)).length ≤ 1000000) := by show _ ≤ _; rw [List.length_map]; have := HR.out.2.2.2.1; have := HS.out; have := HN.out; omega
      clear hs2 hlt hg2 hstep hrg2 hrg hTk hnk hvT hv hat hlk hkey hkk hrow2 hq
      go_wp2_with (first
        | (at_builtin; refine wpList_app1 rfl (.tmp 23) (.tmp 26) 27 rfl w.heap.size 3 (.int .i64 0) 8 Try.underlying27 info_int rfl (by decide) _ (ks.map (Value.int .i64)) rfl ((HRW.out.alloc _).alloc _) (w2.heap.size + 1) 1 (Value.int .i64 c1) rfl ((World.cell?_alloc_at _ _ _ _ (by simp)).trans rfl) rfl HL6.out (by have := HR.out.2.2.2.2.2.size; have := H2.out.2.2.1.size; simp; omega) ?_; intro v4 w4 ho4 hg4 hor4; have H4 := Lib.hid (And.intro ho4 (And.intro hg4 hor4)); clear ho4 hg4 hor4)
        | fail)
      have hne4 : (Value.slice A ks.length cap).ownBlock ≠ some b := fun e => by
        have h1 := (HR.out.2.2.1.lt e).1
        omega
      have hrg4 := ((H2.out.1.alloc (.cells #[Value.int .i64 c1, Value.string c2] 68)).alloc (.cells #[Value.int .i64 c1] 3)).kept H4.out.2.1 (fun e => hne4 e.symm) (Go.row_ne_iter HRW.out H2.out.1)
      have hB2 : Below w.heap.size w w2 := HR.out.2.2.2.2.2.grown H2.out.2.2.1 HR.out.2.2.2.2.2.size (fun j hj => by injection hj with hj; subst hj; exact HB1.out.1)
      have hB4 : Below w.heap.size w w4 := ((hB2.alloc hB2.size _).alloc (by have := hB2.size; simp; omega) _).grown H4.out.2.1 (by have := hB2.size; simp; omega) (fun j hj => (HR.out.2.2.1.lt hj).1)
      have HX : Hid (w4.ranges Try.prog 65 nrd b w1.heap.size N D (fun z => left z && !z.sameKey kl) cnt2 ∧ Below w.heap.size w w4) := ⟨hrg4, hB4⟩
      clear hrg4 hB2 hB4 hne4
      go_roundw
      case rel =>
        refine ⟨_, cnt2, ks ++ [c1], HX.out.1, H2.out.2.1, ?_, ?_, ?_, HX.out.2⟩
        · rw [List.map_append]
          exact H4.out.1
        · have := HR.out.2.2.2.1; have := H2.out.2.2.2.1; rw [List.length_append, List.length_singleton]; omega
        · rcases H4.out.2.2 with e | e
          · exact ⟨q, e.trans HR.out.2.2.2.2.1⟩
          · exact ⟨_, e⟩
      case measure => rw [HX.out.1.left_eq, HLL.out]; exact H2.out.2.2.2.1

set_option maxRecDepth 100000 in
set_option maxHeartbeats 4000000 in
theorem nkeys_nil (w : World) {g : Nat} (hc : w.cell? ⟨g, 0, none⟩ = some (.map none)) :
    Calls Try.prog 16 #[.pointer (some ⟨g, 0, none⟩)] w fun e w' => ∃ v, e = .returned v ∧ Ov w' w.heap.size 3 v [] ∧ Below w.heap.size w w' := by
  have hg := World.block_lt_of_cell? w ⟨g, 0, none⟩ hc
  have hlen := fun ty => len_nil (P := Try.prog) (w := w) Try.underlying24 ty
  have HC := Lib.hid hc
  go_enter Try.func16, Try.ntmps16
  go_wp2_with (first
    | (refine wpList_mk0 _ rfl (.const (.int .i64 0)) (.tmp 12) 27 rfl w.heap.size 3 (.int .i64 0) 8 Try.underlying27 info_int (by decide) _ 0 rfl rfl rfl (by decide) (Nat.le_refl _) ?_; intro w1 ho1 hg1; have hc1 := hg1.cell HC.out (by simp); have hrg := run_range_nilMap (P := Try.prog) w1 24 65 68 Try.underlying24
       have H1 := Lib.hid (And.intro ho1 hg1); clear ho1 hg1)
    | fail)
  have hnx : ∀ ty, (Instr.next (.pointer (some ⟨w1.heap.size, 0, none⟩)) false ty).run Try.prog (w1.alloc (.mapIter none 0 #[] 0)) = .ok (.tuple #[.bool false]) (w1.alloc (.mapIter none 0 #[] 0)) := fun ty => run_next_nilMap _ ty 0 0 #[]
  have HO : Hid (Ov (w1.alloc (.mapIter none 0 #[] 0)) w.heap.size 3 (.slice (some ⟨w.heap.size, 0, none⟩) 0 0) ([].map (Value.int .i64))) := H1.out.1.alloc _
  have HB : Hid (Below w.heap.size w (w1.alloc (.mapIter none 0 #[] 0))) := by
    have H1g : Below w.heap.size w w1 := ⟨H1.out.2.os, H1.out.2.tape, H1.out.2.output, H1.out.2.size, fun k hk => H1.out.2.block k hk (by simp)⟩
    exact H1g.alloc H1g.size _
  have C1 := Lib.hid (sort_own (w1.alloc (.mapIter none 0 #[] 0)) (n := 0) (ks := []) HO.out rfl (by decide))
  go_loopw [3] (fun v wr => v = .slice (some ⟨w.heap.size, 0, none⟩) 0 0 ∧ wr = w1.alloc (.mapIter none 0 #[] 0)) (fun _ _ => 0)
  case atStart => exact ⟨rfl, rfl⟩
  case round =>
    obtain ⟨rfl, rfl⟩ := hrel
    go_wp2_with (first | (go_at_call 29; refine C1.out.mono ?_; rintro e w5 ⟨rfl, ho5, hg5⟩) | fail)
    go_ret
    exact ⟨_, rfl, by simpa using ho5, HB.out.grown hg5 HB.out.size (fun j hj => by injection hj with hj; subst hj; exact Nat.le_refl _)⟩

/-- Keys. -/
theorem nkeys_any (w : World) {B g N : Nat} {T : Int → Option ByteArray} (hN : N ≤ 100000) (h : nTSt B w g N T) :
    Calls Try.prog 16 #[.pointer (some ⟨g, 0, none⟩)] w fun e w' => ∃ (v : Value) (ks : List Int), e = .returned v ∧ Ov w' w.heap.size 3 v (ks.map (Value.int .i64)) ∧ ks.Pairwise (· < ·) ∧ (∀ k, k ∈ ks ↔ (T k).isSome = true) ∧ ks.length ≤ N ∧ Below w.heap.size w w' := by
  obtain ⟨vm, hc, hm⟩ := h.st
  rcases hm with ⟨rfl, h0⟩ | ⟨b, D, rfl, hbB, ho, hd⟩
  · refine (nkeys_nil w hc).mono ?_
    rintro e w' ⟨v, rfl, h1, h2⟩
    exact ⟨v, [], rfl, h1, List.Pairwise.nil, fun k => by simp [h0], Nat.zero_le _, h2⟩
  · exact nkeys_map w hN hc ho hd
set_option maxRecDepth 100000 in
set_option maxHeartbeats 1000000 in
theorem nkeys_no (w : World) : Calls Try.prog 16 #[.pointer none] w fun e w' => e = .returned (.slice none 0 0) ∧ w = w' := by
  go_enter Try.func16, Try.ntmps16
  go_wp2_with fail
  go_ret
  exact ⟨rfl, rfl⟩
end Go.Proofs.Ytkflekaibfkicaa
