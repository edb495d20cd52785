/- The reader of layer 3: arrays without a length. -/
import Derived.Test.YtbdjkihgcmebgaaGreatDoorRKRdA
namespace Go.Proofs.YtbdjkihgcmebgaaGreatDoor
open Go.RowKit

/-- How many bytes are left, by the reader's state. -/
def leftOf (w : World) (g n : Nat) : Nat := match w.cell? ⟨g, 1, none⟩ with | some (.int _ i) => n - i.toNat | _ => 0
/-- How far an endless array has come. -/
structure EndSt (w wr : World) (g : Nat) (A : Option Addr) (n c : Nat) (bs : List UInt8) (d D f i p : Nat) (vL : Value) (cells : List Value) (xs : List Itm) (R : Except Int (List Itm × Nat × List UInt8)) : Prop where
  st : RSt wr g A n c bs i p (d + 1)
  ls : LstSt w wr g 5 vL cells xs
  hf : (bs.drop i).length < f
  hp : p ≤ 4096
  hjp : xs.length ≤ p
  eq : R = prep xs (endl (dec D) f p (bs.drop i))

section
variable {w wr w1 w3 : World} {g n c i p d D f : Nat} {A : Option Addr} {bs : List UInt8} {vL : Value} {cells : List Value} {xs : List Itm} {R : Except Int (List Itm × Nat × List UInt8)}
theorem leftOf_st (h : RSt w g A n c bs i p d) : leftOf w g n = n - i := by unfold leftOf; rw [h.c1]; rfl
theorem endl_succ {sub : Nat → List UInt8 → Except Int (Itm × Nat × List UInt8)} (k : Nat) (p : Nat) (x : UInt8) (r : List UInt8) (hk : 0 < k) (hx : x ≠ 0xff) : endl sub k p (x :: r) = match sub p (x :: r) with
    | .error e => .error e
    | .ok (x, p1, l1) => match endl sub (k - 1) p1 l1 with
      | .error e => .error e
      | .ok (xs, p2, l2) => .ok (x :: xs, p2, l2) := by
  obtain ⟨q, rfl⟩ : ∃ q, k = q + 1 := ⟨k - 1, by omega⟩
  rw [endl, if_neg hx, Nat.add_sub_cancel]
  rcases sub p (x :: r) with z | ⟨x, p1, l1⟩
  · rfl
  · rcases endl sub q p1 l1 with z | ⟨ys, p2, l2⟩ <;> rfl
theorem dec_nil (D p : Nat) : dec D p [] = .error 30 := by cases D <;> rfl
theorem EndSt.out (h : EndSt w wr g A n c bs d D f i p vL cells xs R) (he : ¬ i < n) : R = .error 30 ∧ dec D p (bs.drop i) = .error 30 := by
  have hl := h.st.rd.1
  have e : bs.drop i = [] := List.drop_eq_nil_of_le (by omega)
  obtain ⟨q, rfl⟩ : ∃ q, f = q + 1 := ⟨f - 1, by have := h.hf; omega⟩
  rw [h.eq, e]
  exact ⟨rfl, dec_nil _ _⟩
theorem EndSt.fail (h : EndSt w wr g A n c bs d D f i p vL cells xs R) {x : UInt8} (hx : bs.drop i = x :: bs.drop (i + 1)) (hne : x ≠ 0xff) {z : Int} (he : dec D p (bs.drop i) = .error z) : R = .error z := by
  have hf := h.hf
  rw [h.eq, hx, endl_succ _ _ _ _ (by omega) hne, ← hx, he]
  rfl
theorem EndSt.next (h : EndSt w wr g A n c bs d D f i p vL cells xs R) {y : UInt8} (hy : bs.drop i = y :: bs.drop (i + 1)) (hne : y ≠ 0xff) {x : Itm} {p1 i1 : Nat} {l1 : List UInt8} (he : dec D p (bs.drop i) = .ok (x, p1, l1)) (hl1 : bs.drop i1 = l1) {w4 : World} {vL' : Value} {cells' : List Value}
    (hst : RSt w4 g A n c bs i1 p1 (d + 1)) (hls : LstSt w w4 g 5 vL' cells' (xs ++ [x])) : EndSt w w4 g A n c bs d D (f - 1) i1 p1 vL' cells' (xs ++ [x]) R ∧ n - i1 < n - i := by
  obtain ⟨e1, -, -, -, e5, e6⟩ := dec_ok D p _ x p1 l1 h.hp he
  obtain ⟨cc, rr, hw, -⟩ := wr_ne x
  have hpp := par_pos x
  have hjp := h.hjp
  have hf := h.hf
  have hl := h.st.rd.1
  have hlen : l1.length < (bs.drop i).length := by rw [e1, hw]; simp; omega
  have hl1' := hlen
  rw [← hl1, List.length_drop, List.length_drop] at hl1'
  refine ⟨⟨hst, hls, by rw [hl1]; omega, e6, by rw [List.length_append, List.length_singleton]; omega, ?_⟩, by omega⟩
  rw [h.eq, hy, endl_succ _ _ _ _ (by omega) hne, ← hy, he, hl1]
  show prep xs (match endl (dec D) (f - 1) p1 l1 with | .error e => .error e | .ok (ys, p2, l2) => .ok (x :: ys, p2, l2)) = _
  rcases endl (dec D) (f - 1) p1 l1 with z | ⟨ys, q, l'⟩
  · rfl
  · simp [prep]
theorem EndSt.on (h : EndSt w wr g A n c bs d D f i p vL cells xs R) (hb : Below wr.heap.size wr w1) (hg : g < w.heap.size) : EndSt w w1 g A n c bs d D f i p vL cells xs R :=
  ⟨h.st.below hb h.st.lt, h.ls.on (Only.of_below hb) hg, h.hf, h.hp, h.hjp, h.eq⟩
theorem EndSt.done (h : EndSt w wr g A n c bs d D f i p vL cells xs R) (hy : bs.drop i = 0xff :: bs.drop (i + 1)) : R = .ok (xs, p, bs.drop (i + 1)) := by
  obtain ⟨q, rfl⟩ : ∃ q, f = q + 1 := ⟨f - 1, by have := h.hf; omega⟩
  rw [h.eq, hy, endl, if_pos rfl, prep, List.append_nil]

set_option maxRecDepth 100000 in
set_option maxHeartbeats 4000000 in
theorem endless_any (IH : Hid (ItemIH D)) (hD : d + 1 + D = 8) (hp : p ≤ 4096) (h : RSt w g A n c bs i p d) :
    Calls Tryz.prog 52 #[.pointer (some ⟨g, 0, none⟩)] w (GivesR g A n c bs d (lst 5 (endl (dec D) ((bs.drop i).length + 1) p (bs.drop i))) w) := by
  obtain ⟨R, hR⟩ : ∃ R, R = endl (dec D) ((bs.drop i).length + 1) p (bs.drop i) := ⟨_, rfl⟩
  rw [← hR]
  have hg := h.lt
  have HG := Lib.hid hg
  have hls := LstSt.start hg 5
  have hs0 := (h.alloc (.cells #[.int .i64 0, .int .u64 0, .slice none 0 0, .slice none 0 0] 42)).alloc (.cells #[.int .i64 5, .int .u64 0, .slice none 0 0, .slice none 0 0] 42)
  have q3 := hs0.c3
  have qf := hs0.f3
  have hs1 := hs0.set3 (z := (d : Int) + 1) (d + 1) (by omega)
  have hls1 := hls.on ((Only.refl g _).setCell (p := ⟨g, 3, none⟩) rfl (.int .i64 ((d : Int) + 1))) hg
  have HST := Lib.hid (show EndSt w _ g A n c bs d D ((bs.drop i).length + 1) i p (.slice none 0 0) [] [] R from ⟨hs1, hls1, Nat.lt_succ_self _, hp, Nat.zero_le _, by rw [prep_nil]; exact hR⟩)
  have hd8 : d ≤ 8 := by omega
  obtain ⟨i0, hi0, hz0, hz1, hz2⟩ := info_parts info_item
  have HI := Lib.hid hi0
  have HI0 := Lib.hid hz0
  have HI1 := Lib.hid hz1
  have HI2 := Lib.hid hz2
  clear hR hls hs0 hs1 hls1 h hg hi0 hz0 hz1 hz2 hp
  go_enter Tryz.func52, Tryz.ntmps52
  go_wp2_with fail
  go_loopw [6] (fun _ wr => ∃ (f i p : Nat) (vL : Value) (cells : List Value) (xs : List Itm), Hid (EndSt w wr g A n c bs d D f i p vL cells xs R)) (fun _ wr => leftOf wr g n)
  case atStart => exact ⟨_, i, p, _, _, _, HST.out⟩
  case round =>
    obtain ⟨f, i, p, vL, cells, xs, hst⟩ := hrel
    clear HST q3 qf
    have HS := Lib.hid hst.out.st
    have g0 := hst.out.st.c0
    have g1 := hst.out.st.c1
    have C0 := Lib.hid (fun k => Calls.quiet_of (left_q (hst.out.st.drewN k)))
    have hin := hst.out.st.hi
    have hn6 := hst.out.st.hn
    by_cases hlt : i < n
    · obtain ⟨b, o, x, rfl, hcx, hy, hb⟩ := hst.out.st.byte hlt
      have HB := Lib.hid hb
      have HY := Lib.hid hy
      have hz : (((n - i : Nat) : Int) == 0) = false := by simp; omega
      have i0' : (0 : Int) ≤ (i : Int) := by omega
      have i1' : (i : Int) < (n : Int) := by omega
      generalize hZ : n - i = Z at *
      clear hb hy hZ
      by_cases hff : x = 0xff
      · subst hff
        have hxf : ((255 : Int) != 255) = false := by simp
        have hcx2 : wr.cell? ⟨b, o + i, none⟩ = some (.int .u8 255) := hcx
        clear hcx
        go_wp2_with fail
        go_quiet (first | (go_at_call 76; exact C0.out _) | fail)
        have HB0 := Lib.hid (below_drewN wr.heap.size wr nq)
        have hst0 := hst.out.on HB0.out HG.out
        obtain ⟨AL, nL, cL, rfl⟩ : ∃ AL nL cL, vL = .slice AL nL cL := by
          rcases hst.out.ls.own.2 with ⟨hv, _⟩ | ⟨q, cap, cur, hv, _⟩ <;> exact ⟨_, _, _, hv⟩
        have HRR := Lib.hid (hst.out.done HY.out)
        have HJL : Hid (xs.length ≤ 140737488355328) := by show _ ≤ _; have := hst.out.hjp; have := hst.out.hp; omega
        have q3 := hst0.st.c3
        have qf := hst0.st.f3
        have e1 : ((d + 1 : Nat) : Int) = (d : Int) + 1 := by omega
        rw [e1] at q3
        have hs1 := hst0.st.set3 (z := (d : Int)) d rfl
        have p1c := hs1.c1
        have p1f := hs1.f1
        have hs2 := hs1.set1 (z := (i : Int) + 1) (i + 1) (by omega) (by omega)
        have ho := ((Only.refl g (wr.drewN nq)).setCell (p := ⟨g, 3, none⟩) rfl (.int .i64 (d : Int))).setCell (p := ⟨g, 1, none⟩) rfl (.int .i64 ((i : Int) + 1))
        have hls1 := hst0.ls.on ho HG.out
        have HLS1 := Lib.hid hls1
        have HS1 := Lib.hid hs2
        have b0 := hls1.b0
        have b1 := hls1.b1
        have b2 := hls1.b2
        have b3 := hls1.b3
        have z0 := hls1.z0
        have z1 := hls1.z1
        have z2 := hls1.z2
        have z3 := hls1.z3
        have f0 := hls1.f0
        have f1 := hls1.f1
        have f2 := hls1.f2
        have f3 := hls1.f3
        clear hs1 hs2 ho hls1 e1 hst0
        go_wp2_with fail
        refine bodyPost_ret (v := .tuple #[.agg #[.int .i64 5, .int .u64 0, .slice none 0 0, .slice AL nL cL], .nilIface]) (by simp [results, Tryz.results52, go_sem, z0, z1, z2, z3]) rfl ?_
        rw [HRR.out]
        exact ⟨_, i + 1, rfl, (HLS1.out.read (by decide) HJL.out).fin (Nat.le_refl _) (by omega) (by omega), HS1.out.set4 HG.out, rfl, set4_only HLS1.out.only (Nat.le_refl _)⟩
      · have hxf : ((x.toNat : Int) != 255) = true := by
          have : x.toNat ≠ 255 := fun e => hff (UInt8.toNat_inj.1 e)
          simp; omega
        have HFF := Lib.hid hff
        clear hff
        generalize x.toNat = X at *
        go_wp2_with fail
        go_quiet (first | (go_at_call 76; exact C0.out _) | fail)
        have HB0 := Lib.hid (below_drewN wr.heap.size wr nq)
        have C1 := IH.out (wr.drewN nq) g _ n c bs i p (d + 1) (by omega) hst.out.hp (hst.out.st.below HB0.out HS.out.lt)
        rcases hres : dec D p (bs.drop i) with z | ⟨y, p1, l1⟩
        · rw [hres] at C1
          have hRz := hst.out.fail HY.out HFF.out hres
          have HC := Lib.hid C1
          clear C1 hres
          go_wp2_with fail
          refine HC.out.mono ?_
          rintro e w1 ⟨rfl, ho⟩
          have hls2 := ((hst.out.on HB0.out HG.out).ls.on ho HG.out).on ((Only.refl g w1).alloc (.cells #[.int .i64 0, .int .u64 0, .slice none 0 0, .slice none 0 0] 42)) HG.out
          have z0 := hls2.z0
          have z1 := hls2.z1
          have z2 := hls2.z2
          have z3 := hls2.z3
          have f0 := hls2.f0
          have f1 := hls2.f1
          have f2 := hls2.f2
          have f3 := hls2.f3
          have HO := Lib.hid hls2.only
          have HRZ := Lib.hid hRz
          clear ho hls2 hRz
          unfold noItem flt
          go_wp2_with fail
          refine bodyPost_ret (v := .tuple #[noItem, flt z]) (by simp [results, Tryz.results52, go_sem, z0, z1, z2, z3, noItem, flt]) rfl ?_
          rw [HRZ.out]
          exact ⟨rfl, set4_only HO.out (Nat.le_refl _)⟩
        · rw [hres] at C1
          have HC := Lib.hid C1
          have HRES := Lib.hid hres
          obtain ⟨j, hj⟩ : ∃ j, j = xs.length := ⟨_, rfl⟩
          have hj4 : j ≤ 4096 := by rw [hj]; exact Nat.le_trans hst.out.hjp hst.out.hp
          have HJ := Lib.hid hj
          have HJ4 := Lib.hid hj4
          clear C1 hres hj4 hj
          go_wp2_with fail
          refine HC.out.mono ?_
          rintro e w1 ⟨v, i1, rfl, hv, hst1, hl1, ho⟩
          obtain ⟨k1, n1, A1, nd1, cd1, AL1, nl1, cl1, rfl⟩ := hv.form
          have hls1 := (hst.out.on HB0.out HG.out).ls.on ho HG.out
          have hls2 := (hls1.on ((Only.refl g w1).alloc (.cells #[.int .i64 k1, .int .u64 (n1 : Int), .slice A1 nd1 cd1, .slice AL1 nl1 cl1] 42)) HG.out)
          have b3 := hls2.b3
          have hls3 := hls2.on ((Only.refl g _).alloc (.cells #[.int .i64 k1, .int .u64 (n1 : Int), .slice A1 nd1 cd1, .slice AL1 nl1 cl1] 42)) HG.out
          have HOWN := Lib.hid (show World.ownsRow _ _ _ _ _ j _ by have := hls3.own; rwa [← HJ.out] at this)
          have HLS3 := Lib.hid hls3
          have HV := Lib.hid hv
          have HST1 := Lib.hid hst1
          have HL1 := Lib.hid hl1
          have HO := Lib.hid ho
          clear hv hst1 hl1 ho hls1 hls2 hls3
          go_wp2_with (first
            | (at_builtin; refine wpList_append_lies _ rfl (.tmp 41) (.tmp 43) 40 rfl (w.heap.size + 2) 42 i0 _ 4 64 Tryz.underlying40 HI.out HI0.out HI1.out HI2.out rfl (by decide) vL j cells rfl HOWN.out ⟨w1.heap.size + 1, 0, none⟩ 1 1 [.int .i64 k1, .int .u64 (n1 : Int), .slice A1 nd1 cd1, .slice AL1 nl1 cl1] rfl rfl (by intro q u hq; match q with | 0 => (cases hq; simp [Addr.add]) | 1 => (cases hq; simp [Addr.add]) | 2 => (cases hq; simp [Addr.add]) | 3 => (cases hq; simp [Addr.add]) | q + 4 => simp at hq) (by intro u hu; simp at hu; rcases hu with rfl | rfl | rfl | rfl <;> rfl) (by decide) (by have := HJ4.out; unfold maxLen; omega) (by have := HJ4.out; omega) HLS3.out.sz _ rfl ?_; intro g2 cap2 w3 ho3 hg3 hat hlt3; have HG3 := Lib.hid hg3; have HO3 := Lib.hid ho3; have HAT := Lib.hid hat; have hfar := HLS3.out.far hg3; have s3 := hfar.1; have sf := hfar.2.1; have HB3 := Lib.hid hfar.2.2; clear ho3 hg3 hat hlt3 hfar)
            | fail)
          have hp := LstSt.push (hst.out.on HB0.out HG.out).ls HO.out HG.out HV.out _ _ HJ.out.symm HO3.out HG3.out HAT.out
          have hs3 : RSt w3 g _ n c bs i1 p1 (d + 1) := ((HST1.out.alloc _).alloc _).below HB3.out (Nat.lt_of_lt_of_le HG.out (Nat.le_add_right _ 2))
          obtain ⟨hnx, hlss⟩ := hst.out.next HY.out HFF.out HRES.out HL1.out (hs3.setFar (j := 3) (Nat.lt_succ_of_lt HG.out) _) hp
          have HNX := Lib.hid hnx
          have HLS := Lib.hid hlss
          clear hp hs3 hnx hlss
          go_roundw
          case rel => exact ⟨_, i1, p1, _, _, _, HNX.out⟩
          case measure => rw [leftOf_st HNX.out.st, leftOf_st hst.out.st]; exact HLS.out
    · obtain ⟨hRz, hres⟩ := hst.out.out hlt
      rw [show n - i = 0 by omega, show ((0 : Nat) : Int) = 0 from rfl] at C0
      go_wp2_with fail
      go_quiet (first | (go_at_call 76; exact C0.out _) | fail)
      have HB0 := Lib.hid (below_drewN wr.heap.size wr nq)
      have C1 := IH.out (wr.drewN nq) g _ n c bs i p (d + 1) (by omega) hst.out.hp (hst.out.st.below HB0.out HS.out.lt)
      rw [hres] at C1
      have HC := Lib.hid C1
      clear C1 hres
      go_wp2_with fail
      refine HC.out.mono ?_
      rintro e w1 ⟨rfl, ho⟩
      have hls2 := ((hst.out.on HB0.out HG.out).ls.on ho HG.out).on ((Only.refl g w1).alloc (.cells #[.int .i64 0, .int .u64 0, .slice none 0 0, .slice none 0 0] 42)) HG.out
      have z0 := hls2.z0
      have z1 := hls2.z1
      have z2 := hls2.z2
      have z3 := hls2.z3
      have f0 := hls2.f0
      have f1 := hls2.f1
      have f2 := hls2.f2
      have f3 := hls2.f3
      have HO := Lib.hid hls2.only
      have HRZ := Lib.hid hRz
      clear ho hls2 hRz
      unfold noItem flt
      go_wp2_with fail
      refine bodyPost_ret (v := .tuple #[noItem, flt 30]) (by simp [results, Tryz.results52, go_sem, z0, z1, z2, z3, noItem, flt]) rfl ?_
      rw [HRZ.out]
      exact ⟨rfl, set4_only HO.out (Nat.le_refl _)⟩
end
end Go.Proofs.YtbdjkihgcmebgaaGreatDoor
