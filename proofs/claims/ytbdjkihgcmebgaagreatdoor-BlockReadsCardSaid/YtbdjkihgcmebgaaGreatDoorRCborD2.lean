/- Array of layer 3's reference: items, copied. -/
import Derived.Test.YtbdjkihgcmebgaaGreatDoorRCborD
import Derived.Deep.AppendLies
namespace Go.Proofs.YtbdjkihgcmebgaaGreatDoor
open Go.RowKit

/-- The cells of a list of items, and what they are elsewhere. -/
theorem RdIs.news {w : World} {B b : Nat} : ∀ {l : List Itm} {o : Nat}, RdIs w B b o l → ∃ cs : List Value, cs.length = l.length * 4 ∧ (∀ j u, cs[j]? = some u → w.cell? ⟨b, o + j, none⟩ = some u) ∧ (∀ u ∈ cs, u.oneCell' = true) ∧
    ∀ (W' : World) (B' b' o' : Nat), (∀ j u, cs[j]? = some u → W'.cell? ⟨b', o' + j, none⟩ = some u) → (∀ p : Addr, p.block < B → W'.cell? p = w.cell? p) → B ≤ B' → RdIs W' B' b' o' l
  | [], o, _ => ⟨[], rfl, fun j u h => (by simp at h), fun u h => (by cases h), fun W' B' b' o' _ _ _ => (by rw [RdIs]; trivial)⟩
  | x :: r, o, h => by
    rw [RdIs] at h
    obtain ⟨⟨c0, c1, c2, c3, g0, g1, g2, g3, gx⟩, hr⟩ := h
    obtain ⟨cs, h1, h2, h3, h4⟩ := RdIs.news hr
    obtain ⟨k, n, A, nd, cd, AL, nl, cl, e⟩ := gx.form
    have hone : c0.oneCell' = true ∧ c1.oneCell' = true ∧ c2.oneCell' = true ∧ c3.oneCell' = true := by
      injection e with e
      simp only [Array.mk.injEq, List.cons.injEq, and_true] at e
      obtain ⟨rfl, rfl, rfl, rfl⟩ := e
      exact ⟨rfl, rfl, rfl, rfl⟩
    refine ⟨c0 :: c1 :: c2 :: c3 :: cs, by simp [h1]; omega, ?_, ?_, ?_⟩
    · intro j u hj
      match j with
      | 0 => cases hj; exact g0
      | 1 => cases hj; exact g1
      | 2 => cases hj; exact g2
      | 3 => cases hj; exact g3
      | j + 4 =>
        have := h2 j u (by simpa using hj)
        rw [show o + (j + 4) = o + 4 + j by omega]
        exact this
    · intro u hu
      simp only [List.mem_cons] at hu
      rcases hu with rfl | rfl | rfl | rfl | hu
      · exact hone.1
      · exact hone.2.1
      · exact hone.2.2.1
      · exact hone.2.2.2
      · exact h3 u hu
    · intro W' B' b' o' hc hk hB
      rw [RdIs]
      refine ⟨⟨c0, c1, c2, c3, hc 0 c0 rfl, hc 1 c1 rfl, hc 2 c2 rfl, hc 3 c3 rfl, (gx.keep hk).more hB⟩, h4 W' B' b' (o' + 4) (fun j u hj => ?_) hk hB⟩
      have := hc (j + 4) u (by simpa using hj)
      rw [show o' + (j + 4) = o' + 4 + j by omega] at this
      exact this

theorem RdI.mk_list {w : World} {B b o n c : Nat} {l : List Itm} {k : Int} (hk : (Lit.int .i64 k).wf = true) (hc : n ≤ c) (hn : n ≤ 140737488355328) (hl : l.length = n) (hb : b < B) (h : RdIs w B b o l) : RdI w B (.agg #[.int .i64 k, .int .u64 0, .slice none 0 0, .slice (some ⟨b, o, none⟩) n c]) (.mk k 0 [] l) := by
  rw [RdI]
  exact ⟨none, 0, 0, some ⟨b, o, none⟩, n, c, rfl, hk, by decide, ⟨Nat.le_refl _, by decide⟩, Rd.nil_, ⟨hc, hn⟩, hl, fun _ => ⟨b, o, rfl, hb, h⟩⟩

theorem info_item : (Tryz.prog.info? 42).map (fun i => (i.zero, i.size, i.bytes)) = some (some (.agg #[.int .i64 0, .int .u64 0, .slice none 0 0, .slice none 0 0]), 4, 64) := by kernel_rfl

set_option maxRecDepth 100000 in
set_option maxHeartbeats 2000000 in
theorem rarray_any (b o n c B : Nat) (l : List Itm) (w : World) (hB : B ≤ w.heap.size) (hb : b < B) (h : RdIs w B b o l) (hl : l.length = n) (h0 : 0 < n) (hn : n ≤ 1000000) (_hc : n ≤ c) :
    Calls Tryz.prog 19 #[.slice (some ⟨b, o, none⟩) n c] w (GivesI (.mk 4 0 [] l) w) := by
  obtain ⟨i0, hi0, hz0, hz1, hz2⟩ := info_parts info_item
  obtain ⟨cs, n1, n2, n3, n4⟩ := h.news
  rw [hl] at n1
  have bs : b < w.heap.size := by omega
  have N2 : Hid (∀ j u, cs[j]? = some u → ((w.alloc (.cells #[.int .i64 0, .int .u64 0, .slice none 0 0, .slice none 0 0] 42)).alloc (.cells #[] 42)).cell? ((⟨b, o, none⟩ : Addr).add j) = some u) := by
    intro j u hj
    have e : (⟨b, o, none⟩ : Addr).add j = ⟨b, o + j, none⟩ := by unfold Addr.add; split <;> simp_all
    rw [e, World.cell?_alloc_lt _ _ _ (Nat.lt_of_lt_of_le bs (le_alloc _ _)), World.cell?_alloc_lt _ _ _ bs]
    exact n2 j u hj
  have HO := Lib.hid (show ((w.alloc (.cells #[.int .i64 0, .int .u64 0, .slice none 0 0, .slice none 0 0] 42)).alloc (.cells #[] 42)).ownsRow (w.heap.size + 1) 42 4 (.slice (some ⟨w.heap.size + 1, 0, none⟩) 0 0) 0 [] by
    have h := World.ownsRow_lit (base := w.heap.size + 1) (e := 42) (size := 4) (w.alloc (.cells #[.int .i64 0, .int .u64 0, .slice none 0 0, .slice none 0 0] 42)) #[] 0 (by simp) (by decide) rfl
    simpa using h)
  have N1 := Lib.hid n1
  have N3 := Lib.hid n3
  have N4 := Lib.hid n4
  have HL := Lib.hid hl
  have HBB := Lib.hid hB
  have H0 := Lib.hid h0
  have HN := Lib.hid hn
  have HI := Lib.hid hi0
  have HZ0 := Lib.hid hz0
  have HZ1 := Lib.hid hz1
  have HZ2 := Lib.hid hz2
  clear n1 n2 n3 n4 h hl hB hb bs hi0 hz0 hz1 hz2 h0 hn
  go_enter Tryz.func19, Tryz.ntmps19
  go_wp2_with (first
    | (at_builtin; refine wpList_append_lies _ rfl (.tmp 3) (.tmp 4) 40 rfl (w.heap.size + 1) 42 i0 _ 4 64 Tryz.underlying40 HI.out HZ0.out HZ1.out HZ2.out rfl (by decide) _ 0 [] rfl HO.out ⟨b, o, none⟩ n c cs rfl N1.out N2.out N3.out H0.out (by have := HN.out; unfold maxLen; omega) (by have := HN.out; omega) (by simp) _ rfl ?_; intro g cap w1 ho1 hg1 hat hlt; have B1 := Lib.hid (((Below.refl (w.heap.size + 1) (w.alloc (.cells #[.int .i64 0, .int .u64 0, .slice none 0 0, .slice none 0 0] 42))).alloc (by simp) _).grown hg1 (by simp) (fun k hk => by cases hk; exact Nat.le_refl _)); obtain ⟨⟨z0, z1, z2, z3⟩, f0, f1, f2, f3⟩ := zero_cells B1.out; have O1 := Lib.hid ho1; have HLT := Lib.hid hlt; clear ho1 hg1 hat hlt)
    | fail)
  have ho := O1.out
  rw [Nat.zero_add, List.nil_append] at ho
  have hg := (ho.lt g rfl).1
  have hcap : n ≤ cap := by
    rcases ho.2 with ⟨hv, _⟩ | ⟨g', cap', cur, hv, _, _, hnc, _⟩
    · cases hv
    · injection hv with _ _ h3
      omega
  refine bodyPost_ret (v := .agg #[.int .i64 4, .int .u64 0, .slice none 0 0, .slice (some ⟨g, 0, none⟩) n cap]) (by simp [results, Tryz.results19, go_sem, z0, z1, z2, z3]) rfl ⟨_, rfl, RdI.mk_list (by decide) hcap (by have := HN.out; omega) HL.out (by have := HLT.out; simpa [World.setCell] using this) (N4.out _ _ g 0 ?_ ?_ ?_), ?_⟩
  · intro j u hj
    have hjn : j < n * 4 := by
      rw [← N1.out]
      rcases Nat.lt_or_ge j cs.length with h | h
      · exact h
      · rw [List.getElem?_eq_none h] at hj; cases hj
    rw [Nat.zero_add, World.cell?_setCell_far _ _ _ _ (by show w.heap.size ≠ g; omega), World.cell?_setCell_far _ _ _ _ (by show w.heap.size ≠ g; omega), World.cell?_setCell_far _ _ _ _ (by show w.heap.size ≠ g; omega), World.cell?_setCell_far _ _ _ _ (by show w.heap.size ≠ g; omega), ho.cellAt j hjn]
    exact hj
  · intro p hp
    have hp' : p.block < w.heap.size := Nat.lt_of_lt_of_le hp HBB.out
    exact (below_set4 (((Below.refl _ _).alloc (Nat.le_refl _) _).trans (B1.out.mono (Nat.le_succ _))) (Nat.le_refl _)).cell hp'
  · have := HBB.out
    have h2 := B1.out.size
    simp [World.setCell] at h2 ⊢
    omega
  · exact below_set4 (((Below.refl _ _).alloc (Nat.le_refl _) _).trans (B1.out.mono (Nat.le_succ _))) (Nat.le_refl _)
end Go.Proofs.YtbdjkihgcmebgaaGreatDoor
