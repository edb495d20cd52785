/- What Sealed of layer 5's reference returns. (Made by gen/BlkW2.py.) -/
import Derived.Test.YtbdjkihgcmebgaaGreatDoorRBlkW1
import Derived.Test.YtbdjkihgcmebgaaGreatDoorRCborE
namespace Go.Proofs.YtbdjkihgcmebgaaGreatDoor
open Go.RowKit

theorem RdIs.app {W : World} {B b : Nat} : ∀ {l m : List Itm} {o : Nat}, RdIs W B b o l → RdIs W B b (o + l.length * 4) m → RdIs W B b o (l ++ m)
  | [], m, o, _, h => by simpa using h
  | x :: r, m, o, h, h2 => by
    rw [List.cons_append]
    rw [RdIs] at h ⊢
    refine ⟨h.1, RdIs.app h.2 ?_⟩
    rw [List.length_cons, show o + (r.length + 1) * 4 = o + 4 + r.length * 4 by omega] at h2
    exact h2

set_option maxRecDepth 100000 in
set_option maxHeartbeats 1000000 in
theorem rbytesL_any (lo : Nat) (A : Option Addr) (n c B : Nat) (l : List UInt8) (w : World) (hlo : lo ≤ w.heap.size) (hB : B ≤ w.heap.size) (h : Rd w B A n l) (hn : n ≤ 140737488355328) :
    Calls Tryz.prog 12 #[.slice A n c] w (GivesL lo (.mk 2 0 l []) w) := by
  have HR := Lib.hid ((h.alloc hB (.cells #[.int .i64 0, .int .u64 0, .slice none 0 0, .slice none 0 0] 42)).alloc (Nat.le_trans hB (le_alloc _ _)) (.cells #[] 5))
  have HO := Lib.hid (show Ob ((w.alloc (.cells #[.int .i64 0, .int .u64 0, .slice none 0 0, .slice none 0 0] 42)).alloc (.cells #[] 5)) (w.heap.size + 1) 5 (.slice (some ⟨w.heap.size + 1, 0, none⟩) 0 0) [] by
    have h := Ob.lit (base := w.heap.size + 1) (t := 5) (w.alloc (.cells #[.int .i64 0, .int .u64 0, .slice none 0 0, .slice none 0 0] 42)) [] #[] rfl (by simp) 0 rfl (by decide)
    simpa using h)
  have HN : Hid (([] : List UInt8).length + n ≤ 140737488355328) := by show _ ≤ _; simp; exact hn
  have hl := h.1
  have HLN := Lib.hid hl
  have HLO := Lib.hid hlo
  clear h hn hl hB hlo
  go_enter Tryz.func12, Tryz.ntmps12
  go_wp2_with (first
    | (at_builtin; refine wpList_appB rfl (.tmp 3) (.tmp 4) 22 rfl (w.heap.size + 1) 5 Tryz.underlying22 info_u8 _ [] rfl HO.out B A n c l rfl HR.out HN.out (by simp) ?_; intro v1 w1 ho1 hb1; have O1 := Lib.hid ho1; have B1 := Lib.hid (((Below.refl (w.heap.size + 1) (w.alloc (.cells #[.int .i64 0, .int .u64 0, .slice none 0 0, .slice none 0 0] 42))).alloc (by simp) _).trans hb1); obtain ⟨⟨z0, z1, z2, z3⟩, f0, f1, f2, f3⟩ := zero_cells B1.out; have ho2 := O1.out; rw [List.nil_append] at ho2; obtain ⟨A2, c2, rfl, hc2, hm2, hr2⟩ := ho2.rdn HLN.out; have HR2 := Lib.hid hr2; have HO2 := Lib.hid ho2; clear ho1 hb1 hr2 ho2)
    | fail)
  have hblk : ∀ b o, 0 < n → A2 = some ⟨b, o, none⟩ → w.heap.size < b := by
    intro b o hn h
    obtain ⟨g, cap, hv, hg, _, _⟩ := HO2.out.form (by rw [HLN.out]; exact hn)
    subst h
    cases hv
    omega
  have HLO' := HLO.out
  refine bodyPost_ret (v := .agg #[.int .i64 2, .int .u64 0, .slice A2 n c2, .slice none 0 0]) (by simp [results, Tryz.results12, go_sem, z0, z1, z2, z3]) rfl ⟨_, rfl, RdI.mk_data (by decide) hc2 (by have := HN.out; simpa using this) (Rd.mask_any ?_ (fun hn b o h => by have := hblk b o hn h; omega)), ?_⟩
  · refine Rd.set4 (HR2.out.more (by simp [World.setCell])) (fun hn b o h => ?_)
    have := hblk b o hn h
    omega
  · exact below_set4 (((Below.refl _ _).alloc (Nat.le_refl _) _).trans (B1.out.mono (Nat.le_succ _))) (Nat.le_refl _)

theorem cells4_at (W : World) (c0 c1 c2 c3 : Value) {t : TypeId} : ∀ j u, ([c0, c1, c2, c3] : List Value)[j]? = some u → (W.alloc (.cells #[c0, c1, c2, c3] t)).cell? ((⟨W.heap.size, 0, none⟩ : Addr).add j) = some u := fun j u hj => by
  rw [show (⟨W.heap.size, 0, none⟩ : Addr).add j = ⟨W.heap.size, j, none⟩ by unfold Addr.add; split <;> simp_all, World.cell?_alloc_at _ _ _ _ rfl]
  simpa using hj
theorem one4 (k n : Int) (A : Option Addr) (nd cd : Nat) (AL : Option Addr) (nl cl : Nat) : ∀ u ∈ ([.int .i64 k, .int .u64 n, .slice A nd cd, .slice AL nl cl] : List Value), u.oneCell' = true := fun u hu => by
  simp only [List.mem_cons, List.not_mem_nil, or_false] at hu
  rcases hu with rfl | rfl | rfl | rfl <;> rfl

/-- Five items, and one more, in a row of one's own. -/
theorem sealed_row {w w3 w5 w6 : World} {g3 g6 cap6 base : Nat} {e : TypeId} {ob : Obj} {cs : List Value} {items : List Itm} {x : Itm} {c0 c1 c2 c3 : Value}
    (n4 : ∀ (W' : World) (B' b' o' : Nat), (∀ j u, cs[j]? = some u → W'.cell? ⟨b', o' + j, none⟩ = some u) → (∀ p : Addr, p.block < w.heap.size → W'.cell? p = w.cell? p) → w.heap.size ≤ B' → RdIs W' B' b' o' items)
    (hb : Below w.heap.size w w6) (ho : w6.ownsRow base e 4 (.slice (some ⟨g6, 0, none⟩) 6 cap6) 6 (cs ++ [c0, c1, c2, c3])) (hcs : cs.length = 20) (hi : items.length = 5)
    (hv : RdI (mask (lows w3.heap.size) w5) w5.heap.size (.agg #[c0, c1, c2, c3]) x) (hg : (w5.alloc ob).grownBy w6 (some g3)) (hg3 : g3 < w3.heap.size) :
    RdIs w6 w6.heap.size g6 0 (items ++ [x]) := by
  have hs5 : (w5.alloc ob).heap.size = w5.heap.size + 1 := by simp
  have hz := hg.size
  have cell : ∀ j u, (cs ++ [c0, c1, c2, c3])[j]? = some u → w6.cell? ⟨g6, j, none⟩ = some u := fun j u hj => by
    have hjl : j < 6 * 4 := by
      rcases Nat.lt_or_ge j 24 with h | h
      · exact h
      · rw [List.getElem?_eq_none (by simp [hcs]; omega)] at hj; cases hj
    rw [World.ownsRow.cellAt ho j hjl]
    exact hj
  refine RdIs.app (n4 w6 _ g6 0 (fun j u hj => ?_) (fun p hp => hb.cell hp) hb.size) ?_
  · rw [Nat.zero_add]
    refine cell j u ?_
    rw [List.getElem?_append_left (by rcases Nat.lt_or_ge j cs.length with h | h; exact h; rw [List.getElem?_eq_none h] at hj; cases hj)]
    exact hj
  · rw [RdIs, RdIs, hi]
    have hx : RdI w6 w6.heap.size (.agg #[c0, c1, c2, c3]) x := hv.sub (by omega) (fun p u _ hc => by
      have h1 := lows_f.1 (mask_out hc)
      have h2 := mask_sub hc
      have hlt := World.block_lt_of_cell? w5 p h2
      rw [World.cell?_of_block (hg.block p.block (by omega) (fun e => by injection e with e; omega)), World.cell?_alloc_lt _ _ _ hlt]
      exact h2)
    exact ⟨⟨c0, c1, c2, c3, cell 20 _ (by simp [hcs]), cell 21 _ (by simp [hcs]), cell 22 _ (by simp [hcs]), cell 23 _ (by simp [hcs]), hx⟩, trivial⟩
theorem app_below {w w' : World} {base g n cap : Nat} {e : TypeId} {xs : List Value} (ho : w.ownsRow base e 4 (.slice (some ⟨g, 0, none⟩) n cap) n xs) (hg : w.grownBy w' (some g)) (hb : base ≤ w.heap.size) : Below base w w' := grown_below ho hg hb
theorem step3 {w a w3 : World} {base g n cap : Nat} {e : TypeId} {xs : List Value} (h0 : Below base w a) (ho : a.ownsRow base e 4 (.slice (some ⟨g, 0, none⟩) n cap) n xs) (hg : a.grownBy w3 (some g)) (hb : base ≤ a.heap.size) : Below base w w3 := h0.trans (app_below ho hg hb)
theorem drew_cell0 {W : World} {p : Addr} {u : Value} (h : W.cell? p = some u) : W.drew.cell? p = some u := h
theorem own_cap {w : World} {base g n cap : Nat} {e : TypeId} {xs : List Value} (h : w.ownsRow base e 4 (.slice (some ⟨g, 0, none⟩) n cap) n xs) : n ≤ cap := by
  rcases h.2 with ⟨hv, _⟩ | ⟨g', cap', cur, hv, _, _, hnc, _⟩
  · cases hv
  · injection hv with _ _ h3
    omega

theorem blkW_0 (t n f : Nat) (d : List UInt8) : wri (.mk 4 0 [] (partsB ⟨t, n, f, 0, d⟩)) = blkW ⟨t, n, f, 0, d⟩ := by
  have h := wri_itm ⟨t, n, f, 0, d⟩ [] rfl (by simp)
  have hs : sumB ⟨t, n, f, 0, d⟩ = [] := List.eq_nil_of_length_eq_zero (by rw [sumB_len]; rfl)
  unfold blkW
  rw [hs, ← h]
  rfl

set_option maxRecDepth 100000 in
set_option maxHeartbeats 4000000 in
theorem rsealed_0 (t n f g : Nat) (d : List UInt8) (w : World) (hd : d.length ≤ 4096) (hg : g < w.heap.size) (h : RdIs w w.heap.size g 0 (partsB ⟨t, n, f, 0, d⟩)) :
    Calls Tryz.prog 30 #[.slice (some ⟨g, 0, none⟩) 5 5, .int .i64 0] w (Gives (blkW ⟨t, n, f, 0, d⟩) w) := by
  have C1 := Lib.hid (rarray_any g 0 5 5 w.heap.size (partsB ⟨t, n, f, 0, d⟩) w (Nat.le_refl _) hg h rfl (by decide) (by decide) (Nat.le_refl _))
  have hF : Fits (.mk 4 0 [] (partsB ⟨t, n, f, 0, d⟩)) := itm_fits ⟨t, n, f, 0, d⟩ []
  have hw := blkW_0 t n f d
  have hl : (blkW ⟨t, n, f, 0, d⟩).length ≤ 140737488355328 := by
    unfold blkW
    rw [List.length_append, sumB_len]
    have h1 := body_len ⟨t, n, f, 0, d⟩
    have h2 := sumN_le (⟨t, n, f, 0, d⟩ : Blk).crc
    simp only at h1 h2 ⊢
    omega
  have C2 := Lib.hid (fun v W (hr : RdI W W.heap.size v (.mk 4 0 [] (partsB ⟨t, n, f, 0, d⟩))) => rencode_any _ v W W.heap.size (by simp [partsB, par, pars]) (by simp [partsB, hgt, hgts]) (fun _ => by rw [hw]; exact hl) (Nat.le_refl _) hr)
  rw [enc_ok hF, hw] at C2
  clear hF hw hl h hg hd
  generalize blkW ⟨t, n, f, 0, d⟩ = WB at *
  generalize Itm.mk 4 0 [] (partsB ⟨t, n, f, 0, d⟩) = X at *
  go_enter Tryz.func30, Tryz.ntmps30
  go_wp2_with fail
  refine C1.out.mono ?_
  rintro e w1 ⟨v1, rfl, hv1, hb1⟩
  obtain ⟨k1, n1, A1, nd1, cd1, AL1, nl1, cl1, rfl⟩ := hv1.form
  have B1 := Lib.hid hb1
  have V1 := Lib.hid hv1
  clear hb1 hv1 C1
  go_wp2_with fail
  refine (C2.out _ _ V1.out).mono ?_
  rintro e w2 ⟨v2, rfl, ho2, hb2⟩
  obtain ⟨A2, c2, rfl, hc2, -, hr2⟩ := ho2.rd
  have HR2 := Lib.hid (And.intro hc2 hr2)
  have B2 := Lib.hid (B1.out.trans (hb2.mono B1.out.size))
  clear hb2 ho2 hc2 hr2
  go_wp2_with fail
  go_ret
  exact ⟨_, _, _, rfl, HR2.out.2, HR2.out.1, B2.out⟩
end Go.Proofs.YtbdjkihgcmebgaaGreatDoor
