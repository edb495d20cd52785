/- The reader of layer 3: arrays of a length. -/
import Derived.Test.YtbdjkihgcmebgaaGreatDoorRCborN
import Derived.Test.YtbdjkihgcmebgaaGreatDoorRKLst
namespace Go.Proofs.YtbdjkihgcmebgaaGreatDoor
open Go.RowKit

/-- What item returns with D levels of arrays left. -/
def ItemIH (D : Nat) : Prop := ∀ (w : World) (g : Nat) (A : Option Addr) (n c : Nat) (bs : List UInt8) (i p d : Nat), d + D = 8 → p ≤ 4096 → RSt w g A n c bs i p d →
    Calls Tryz.prog 34 #[.pointer (some ⟨g, 0, none⟩)] w (GivesR g A n c bs d (dec D p (bs.drop i)) w)

/-- Items ahead of those that are read. -/
def prep (xs : List Itm) (r : Except Int (List Itm × Nat × List UInt8)) : Except Int (List Itm × Nat × List UInt8) :=
  match r with
  | .error z => .error z
  | .ok (ys, q, l') => .ok (xs ++ ys, q, l')
/-- A list made an item. -/
def lst (k : Int) (r : Except Int (List Itm × Nat × List UInt8)) : Except Int (Itm × Nat × List UInt8) :=
  match r with
  | .error z => .error z
  | .ok (xs, q, l') => .ok (.mk k 0 [] xs, q, l')
theorem prep_nil (r : Except Int (List Itm × Nat × List UInt8)) : prep [] r = r := by
  rcases r with z | ⟨ys, q, l'⟩ <;> rfl
theorem prep_err {xs : List Itm} {z : Int} : prep xs (.error z) = .error z := rfl

/-- How far an array has come: j items of m. -/
structure ArrSt (w wr : World) (g : Nat) (A : Option Addr) (n c : Nat) (bs : List UInt8) (d D m j i p : Nat) (vL : Value) (cells : List Value) (xs : List Itm) (R : Except Int (List Itm × Nat × List UInt8)) : Prop where
  st : RSt wr g A n c bs i p (d + 1)
  ls : LstSt w wr g 4 vL cells xs
  hj : j ≤ m
  hl : xs.length = j
  hp : p ≤ 4096
  hjp : j ≤ p
  eq : R = prep xs (many (dec D) (m - j) p (bs.drop i))

section
variable {w wr w1 w3 : World} {g n c i p d D m j : Nat} {A : Option Addr} {bs : List UInt8} {vL : Value} {cells : List Value} {xs : List Itm} {R : Except Int (List Itm × Nat × List UInt8)}
theorem many_succ {sub : Nat → List UInt8 → Except Int (Itm × Nat × List UInt8)} (k : Nat) (p : Nat) (l : List UInt8) (hk : 0 < k) : many sub k p l = match sub p l with
    | .error e => .error e
    | .ok (x, p1, l1) => match many sub (k - 1) p1 l1 with
      | .error e => .error e
      | .ok (xs, p2, l2) => .ok (x :: xs, p2, l2) := by
  obtain ⟨q, rfl⟩ : ∃ q, k = q + 1 := ⟨k - 1, by omega⟩
  rw [many, Nat.add_sub_cancel]
  rcases sub p l with z | ⟨x, p1, l1⟩
  · rfl
  · rcases many sub q p1 l1 with z | ⟨ys, p2, l2⟩ <;> rfl
theorem ArrSt.fail (h : ArrSt w wr g A n c bs d D m j i p vL cells xs R) (hj : j < m) {z : Int} (he : dec D p (bs.drop i) = .error z) : R = .error z := by
  rw [h.eq, many_succ _ _ _ (by omega), he]
  rfl
theorem ArrSt.next (h : ArrSt w wr g A n c bs d D m j i p vL cells xs R) (hj : j < m) {x : Itm} {p1 i1 : Nat} {l1 : List UInt8} (he : dec D p (bs.drop i) = .ok (x, p1, l1)) (hl1 : bs.drop i1 = l1) {w4 : World} {vL' : Value} {cells' : List Value}
    (hst : RSt w4 g A n c bs i1 p1 (d + 1)) (hls : LstSt w w4 g 4 vL' cells' (xs ++ [x])) : ArrSt w w4 g A n c bs d D m (j + 1) i1 p1 vL' cells' (xs ++ [x]) R := by
  obtain ⟨-, -, -, -, e5, e6⟩ := dec_ok D p _ x p1 l1 h.hp he
  have hpp := par_pos x
  have hjp := h.hjp
  refine ⟨hst, hls, by omega, by rw [List.length_append, List.length_singleton, h.hl], e6, by omega, ?_⟩
  rw [h.eq, many_succ _ _ _ (by omega), he, hl1, Nat.sub_sub]
  show prep xs (match many (dec D) (m - (j + 1)) p1 l1 with | .error e => .error e | .ok (ys, p2, l2) => .ok (x :: ys, p2, l2)) = _
  rcases many (dec D) (m - (j + 1)) p1 l1 with z | ⟨ys, q, l'⟩
  · rfl
  · simp [prep]
theorem ArrSt.done (h : ArrSt w wr g A n c bs d D m j i p vL cells xs R) (hj : ¬ j < m) : R = .ok (xs, p, bs.drop i) := by
  have := h.hj
  rw [h.eq, show m - j = 0 by omega, many, prep, List.append_nil]

set_option maxRecDepth 100000 in
set_option maxHeartbeats 4000000 in
theorem array_any (IH : Hid (ItemIH D)) (hD : d + 1 + D = 8) (hp : p ≤ 4096) (h : RSt w g A n c bs i p d) (m : Nat) (hm : m < 18446744073709551616) :
    Calls Tryz.prog 80 #[.pointer (some ⟨g, 0, none⟩), .int .u64 (m : Int)] w (GivesR g A n c bs d (lst 4 (many (dec D) m p (bs.drop i))) w) := by
  obtain ⟨R, hR⟩ : ∃ R, R = many (dec D) m p (bs.drop i) := ⟨_, rfl⟩
  rw [← hR]
  have hg := h.lt
  have HG := Lib.hid hg
  have hls := LstSt.start hg 4
  have hs0 := (h.alloc (.cells #[.int .i64 0, .int .u64 0, .slice none 0 0, .slice none 0 0] 42)).alloc (.cells #[.int .i64 4, .int .u64 0, .slice none 0 0, .slice none 0 0] 42)
  have q3 := hs0.c3
  have qf := hs0.f3
  have hs1 := hs0.set3 (z := (d : Int) + 1) (d + 1) (by omega)
  have hls1 := hls.on ((Only.refl g _).setCell (p := ⟨g, 3, none⟩) rfl (.int .i64 ((d : Int) + 1))) hg
  have HST := Lib.hid (show ArrSt w _ g A n c bs d D m 0 i p (.slice none 0 0) [] [] R from ⟨hs1, hls1, Nat.zero_le _, rfl, hp, Nat.zero_le _, by rw [Nat.sub_zero, prep_nil]; exact hR⟩)
  have hd8 : d ≤ 8 := by omega
  obtain ⟨i0, hi0, hz0, hz1, hz2⟩ := info_parts info_item
  have HI := Lib.hid hi0
  have HI0 := Lib.hid hz0
  have HI1 := Lib.hid hz1
  have HI2 := Lib.hid hz2
  clear hR hls hs0 hs1 hls1 h hg hi0 hz0 hz1 hz2 hp
  go_enter Tryz.func80, Tryz.ntmps80
  go_wp2_with fail
  go_loopw [18] (fun cnt wr => ∃ (j i p : Nat) (vL : Value) (cells : List Value) (xs : List Itm), cnt = .int .u64 (j : Int) ∧ j ≤ m ∧ Hid (ArrSt w wr g A n c bs d D m j i p vL cells xs R)) (fun cnt _ => m - (intOf cnt).toNat)
  case atStart => exact ⟨0, i, p, _, _, _, rfl, Nat.zero_le _, HST.out⟩
  case round =>
    obtain ⟨j, i, p, vL, cells, xs, rfl, hj, hst⟩ := hrel
    clear HST q3 qf
    by_cases hlt : j < m
    · have C1 := IH.out wr g A n c bs i p (d + 1) (by omega) hst.out.hp hst.out.st
      rcases hres : dec D p (bs.drop i) with z | ⟨x, p1, l1⟩
      · rw [hres] at C1
        have hRz := hst.out.fail hlt hres
        have HC := Lib.hid C1
        clear C1 hres
        go_wp2_with fail
        refine HC.out.mono ?_
        rintro e w1 ⟨rfl, ho⟩
        have hls2 := (hst.out.ls.on ho HG.out).on ((Only.refl g w1).alloc (.cells #[.int .i64 0, .int .u64 0, .slice none 0 0, .slice none 0 0] 42)) HG.out
        have z0 := hls2.z0
        have z1 := hls2.z1
        have z2 := hls2.z2
        have z3 := hls2.z3
        have f0 := hls2.f0
        have f1 := hls2.f1
        have f2 := hls2.f2
        have f3 := hls2.f3
        have HO := Lib.hid hls2.only
        have HRZ := Lib.hid hRz
        clear ho hls2 hRz
        unfold noItem flt
        go_wp2_with fail
        refine bodyPost_ret (v := .tuple #[noItem, flt z]) (by simp [results, Tryz.results80, go_sem, z0, z1, z2, z3, noItem, flt]) rfl ?_
        rw [HRZ.out]
        exact ⟨rfl, set4_only HO.out (Nat.le_refl _)⟩
      · rw [hres] at C1
        have HC := Lib.hid C1
        have HRES := Lib.hid hres
        have hj4 : j ≤ 4096 := Nat.le_trans hst.out.hjp hst.out.hp
        have HJ4 := Lib.hid hj4
        clear C1 hres hj4
        go_wp2_with fail
        refine HC.out.mono ?_
        rintro e w1 ⟨v, i1, rfl, hv, hst1, hl1, ho⟩
        obtain ⟨k1, n1, A1, nd1, cd1, AL1, nl1, cl1, rfl⟩ := hv.form
        have hls1 := hst.out.ls.on ho HG.out
        have hls2 := (hls1.on ((Only.refl g w1).alloc (.cells #[.int .i64 k1, .int .u64 (n1 : Int), .slice A1 nd1 cd1, .slice AL1 nl1 cl1] 42)) HG.out)
        have b3 := hls2.b3
        have hls3 := hls2.on ((Only.refl g _).alloc (.cells #[.int .i64 k1, .int .u64 (n1 : Int), .slice A1 nd1 cd1, .slice AL1 nl1 cl1] 42)) HG.out
        have HOWN := Lib.hid (show World.ownsRow _ _ _ _ _ j _ by have := hls3.own; rwa [hst.out.hl] at this)
        have HLS3 := Lib.hid hls3
        have HV := Lib.hid hv
        have HST1 := Lib.hid hst1
        have HL1 := Lib.hid hl1
        have HO := Lib.hid ho
        clear hv hst1 hl1 ho hls1 hls2 hls3
        go_wp2_with (first
          | (at_builtin; refine wpList_append_lies _ rfl (.tmp 30) (.tmp 32) 40 rfl (w.heap.size + 2) 42 i0 _ 4 64 Tryz.underlying40 HI.out HI0.out HI1.out HI2.out rfl (by decide) vL j cells rfl HOWN.out ⟨w1.heap.size + 1, 0, none⟩ 1 1 [.int .i64 k1, .int .u64 (n1 : Int), .slice A1 nd1 cd1, .slice AL1 nl1 cl1] rfl rfl (by intro q u hq; match q with | 0 => (cases hq; simp [Addr.add]) | 1 => (cases hq; simp [Addr.add]) | 2 => (cases hq; simp [Addr.add]) | 3 => (cases hq; simp [Addr.add]) | q + 4 => simp at hq) (by intro u hu; simp at hu; rcases hu with rfl | rfl | rfl | rfl <;> rfl) (by decide) (by have := HJ4.out; unfold maxLen; omega) (by have := HJ4.out; omega) HLS3.out.sz _ rfl ?_; intro g2 cap2 w3 ho3 hg3 hat hlt3; have HG3 := Lib.hid hg3; have HO3 := Lib.hid ho3; have HAT := Lib.hid hat; have hfar := HLS3.out.far hg3; have s3 := hfar.1; have sf := hfar.2.1; have HB3 := Lib.hid hfar.2.2; clear ho3 hg3 hat hlt3 hfar)
          | fail)
        go_roundw
        case rel =>
          have hp := LstSt.push hst.out.ls HO.out HG.out HV.out _ _ hst.out.hl HO3.out HG3.out HAT.out
          have hs3 : RSt w3 g A n c bs i1 p1 (d + 1) := ((HST1.out.alloc _).alloc _).below HB3.out (Nat.lt_of_lt_of_le HG.out (Nat.le_add_right _ 2))
          exact ⟨j + 1, i1, p1, _, _, _, by go_num, by omega, hst.out.next hlt HRES.out HL1.out (hs3.setFar (Nat.lt_succ_of_lt HG.out) _) hp⟩
        case measure => simp [intOf]; omega
    · obtain ⟨AL, nL, cL, rfl⟩ : ∃ AL nL cL, vL = .slice AL nL cL := by
        rcases hst.out.ls.own.2 with ⟨hv, _⟩ | ⟨q, cap, cur, hv, _⟩ <;> exact ⟨_, _, _, hv⟩
      have hR := hst.out.done hlt
      have HST := Lib.hid hst.out.st
      have HLS := Lib.hid hst.out.ls
      have HJL : Hid (xs.length ≤ 140737488355328) := by show _ ≤ _; have := hst.out.hjp; have := hst.out.hp; have := hst.out.hl; omega
      have q3 := hst.out.st.c3
      have qf := hst.out.st.f3
      have e1 : ((d + 1 : Nat) : Int) = (d : Int) + 1 := by omega
      rw [e1] at q3
      have hs1 := hst.out.st.set3 (z := (d : Int)) d rfl
      have ho := (Only.refl g wr).setCell (p := ⟨g, 3, none⟩) rfl (.int .i64 (d : Int))
      have hls1 := hst.out.ls.on ho HG.out
      have HRR := Lib.hid hR
      have HLS1 := Lib.hid hls1
      have HS1 := Lib.hid hs1
      have b0 := hls1.b0
      have b1 := hls1.b1
      have b2 := hls1.b2
      have b3 := hls1.b3
      have z0 := hls1.z0
      have z1 := hls1.z1
      have z2 := hls1.z2
      have z3 := hls1.z3
      have f0 := hls1.f0
      have f1 := hls1.f1
      have f2 := hls1.f2
      have f3 := hls1.f3
      clear hR hs1 ho hls1 e1 hst
      go_wp2_with fail
      refine bodyPost_ret (v := .tuple #[.agg #[.int .i64 4, .int .u64 0, .slice none 0 0, .slice AL nL cL], .nilIface]) (by simp [results, Tryz.results80, go_sem, z0, z1, z2, z3]) rfl ?_
      rw [HRR.out]
      exact ⟨_, i, rfl, (HLS1.out.read (by decide) HJL.out).fin (Nat.le_refl _) (by omega) (by omega), HS1.out.set4 HG.out, rfl, set4_only HLS1.out.only (Nat.le_refl _)⟩
end
end Go.Proofs.YtbdjkihgcmebgaaGreatDoor
