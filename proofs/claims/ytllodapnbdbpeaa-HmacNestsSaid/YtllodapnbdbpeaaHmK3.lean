/- What Tag and Verify of layer 8 return, a part laid ahead of the others; digests compared as arrays. -/
import Derived.Test.YtllodapnbdbpeaaHmK2
import Derived.Test.YtllodapnbdbpeaaHmZ
import Derived.Deep.RegionHeld3
namespace Go.Proofs.Ytllodapnbdbpeaa
open Go.RowKit

theorem info_bs : (Try.prog.info? 22).map (fun i => (i.zero, i.size, i.bytes)) = some (some (.slice none 0 0), 1, 24) := by kernel_rfl

section
variable {P : Program} (w : World)
/-- append of slices onto an own slice of slices. -/
theorem run_appP (base : Nat) (t ty e : TypeId) (ht : P.underlying t = some (.slice e)) (hinfo : (P.info? e).map (fun i => (i.zero, i.size, i.bytes)) = some (some (.slice none 0 0), 1, 24))
    (v : Value) (n : Nat) (xs : List Value) (hown : w.ownsRow base e 1 v n xs) (A : Option Addr) (m c : Nat) (news : List Value) (hl : news.length = m) (h1 : ∀ u ∈ news, u.oneCell' = true)
    (hc : 0 < m → ∃ b o, A = some ⟨b, o, none⟩ ∧ ∀ j u, news[j]? = some u → w.cell? ⟨b, o + j, none⟩ = some u) (hbound : n + m ≤ 1099511627776) (hbase : base ≤ w.heap.size) :
    ∃ v' w', (Builtin.append_ #[t, t] ty #[v, .slice A m c]).run P w = .ok v' w' ∧ w'.ownsRow base e 1 v' (n + m) (xs ++ news) ∧ w.grownBy w' v.ownBlock := by
  obtain ⟨i, hi, hzz⟩ := Option.map_eq_some_iff.1 hinfo
  simp only [Prod.mk.injEq] at hzz
  obtain ⟨hz, hs, hb⟩ := hzz
  rcases A with _ | ad
  · have h0 : m = 0 := by
      rcases Nat.eq_zero_or_pos m with h | h
      · exact h
      · obtain ⟨_, _, h', _⟩ := hc h
        cases h'
    subst h0
    have hn : news = [] := List.eq_nil_of_length_eq_zero hl
    subst hn
    refine ⟨v, w, ?_, by simpa using hown, World.grownBy.refl w _⟩
    rcases hown.2 with ⟨rfl, hn⟩ | ⟨g, cap, cur, rfl, _, _, hnc, _⟩
    · simp [Builtin.append_, run_underlying ht, sizeOf, typeInfo, hi, Builtin.lenOf, Builtin.firstCells]
    · simp [Builtin.append_, run_underlying ht, sizeOf, typeInfo, hi, Builtin.lenOf, Builtin.firstCells, hnc, storeCells]
  · have hcells : ∀ j u, news[j]? = some u → w.cell? (ad.add j) = some u := by
      intro j u hu
      rcases Nat.eq_zero_or_pos m with h0 | h0
      · have hn : news = [] := List.eq_nil_of_length_eq_zero (by omega)
        subst hn
        simp at hu
      · obtain ⟨b, o, e1, hh⟩ := hc h0
        injection e1 with e1
        subst e1
        have ea : (⟨b, o, none⟩ : Addr).add j = ⟨b, o + j, none⟩ := by unfold Addr.add; split <;> simp_all
        rw [ea]
        exact hh j u hu
    obtain ⟨v', w', hrun, h2, h3, _, _⟩ := run_append_own_at (P := P) w base t ty e i (.slice none 0 0) 1 24 ht hi hz hs hb rfl (by decide) v n xs hown ad m c news (by simp [hl]) hcells h1
      (by unfold maxLen; omega) (by omega) hbase
    exact ⟨v', w', hrun, h2, h3⟩
theorem wpList_appP {w : World} {ops : Array Oper} {rest : List Oper} {o : Oper} {a : Act} {Q : Exit → Act → World → Prop} (hgd : o.guard = none) (s x : Operand) (t : TypeId)
    (ho : o.op = .call { callee := .builtin .append, args := #[s, x], argTypes := #[t, t] })
    (base : Nat) (e : TypeId) (ht : P.underlying t = some (.slice e)) (hinfo : (P.info? e).map (fun i => (i.zero, i.size, i.bytes)) = some (some (.slice none 0 0), 1, 24))
    (v : Value) (n : Nat) (xs : List Value) (hs : a.eval s = v) (hown : w.ownsRow base e 1 v n xs) (A : Option Addr) (m c : Nat) (news : List Value) (hx : a.eval x = .slice A m c) (hl : news.length = m) (h1 : ∀ u ∈ news, u.oneCell' = true)
    (hc : 0 < m → ∃ b o, A = some ⟨b, o, none⟩ ∧ ∀ j u, news[j]? = some u → w.cell? ⟨b, o + j, none⟩ = some u) (hbound : n + m ≤ 1099511627776) (hbase : base ≤ w.heap.size)
    (h : ∀ v' w', w'.ownsRow base e 1 v' (n + m) (xs ++ news) → Below base w w' → wpList P ops Q rest (a.put o.dst v') w') : wpList P ops Q (o :: rest) a w := by
  refine wpList_plain hgd fun K hK => ?_
  obtain ⟨v', w', hrun, h2, h3⟩ := run_appP (P := P) w base t o.type e ht hinfo v n xs hown A m c news hl h1 hc hbound hbase
  unfold Oper.wp execOp
  simp only [ho, resolve, invoke, builtin, Sem.run_bind, Sem.run_pure, Result.andThen_ok, List.map_toArray, List.map_cons, List.map_nil, hs, hx, hrun]
  exact hK _ _ (h v' w' h2 ⟨h3.os, h3.tape, h3.output, h3.size, fun k hk => h3.block k (by omega) (fun e => by have := (World.ownsRow.lt hown k e.symm).1; omega)⟩)
end

def ptV (p : Pt) : Value := .slice p.A p.n p.c
/-- Parts in an own row. -/
theorem ptsF_own {w : World} {base n : Nat} {v : Value} {ps : List Pt} (h : w.ownsRow base 22 1 v n (ps.map ptV)) (hok : ∀ p ∈ ps, PtOk w (· < w.heap.size) p) : ∃ A c, v = .slice A n c ∧ PtsF w (· < w.heap.size) A n ps := by
  have hl : ps.length = n := by have := h.1; simpa using this
  rcases h.2 with ⟨rfl, rfl⟩ | ⟨g, cap, cur, rfl, hb, hg, hnc, hm, hs, ht⟩
  · exact ⟨none, 0, rfl, hl, fun h0 => absurd h0 (by omega), hok⟩
  · refine ⟨_, cap, rfl, hl, fun _ => ⟨g, 0, rfl, (Array.getElem?_eq_some_iff.1 hg).1, fun i p hp => ?_⟩, hok⟩
    have hc := World.ownsRow.cells h (g := g) rfl i (ptV p) (by simp [hp])
    have ea : (⟨g, 0, none⟩ : Addr).add i = ⟨g, 0 + i, none⟩ := by unfold Addr.add; split <;> simp_all
    rw [ea] at hc
    exact hc


set_option maxRecDepth 100000 in
set_option maxHeartbeats 1000000 in
theorem csumBehind_any (A1 : Option Addr) (n1 c1 : Nat) (l1 : List UInt8) (Ap : Option Addr) (np cp : Nat) (ps : List Pt) (w : World) (h1 : Rd w w.heap.size A1 n1 l1) (hc1 : n1 ≤ c1) (hc1' : c1 ≤ 9223372036854775807) (hp : PtsF w (· < w.heap.size) Ap np ps) (hz : (l1 ++ catP ps).length ≤ 549755813888) (hnp : np ≤ 1048576) :
    Calls Try.prog 24 #[.slice A1 n1 c1, .slice Ap np cp] w (GivesO 5 (shaL (l1 ++ catP ps)) w) := by
  have R1 := Lib.hid (And.intro h1 (And.intro hc1 hc1'))
  have HP := Lib.hid hp
  have HZ := Lib.hid hz
  have OW : Hid ((w.alloc (.cells #[.slice A1 n1 c1] 22)).ownsRow w.heap.size 22 1 (.slice (some ⟨w.heap.size, 0, none⟩) 1 1) 1 [.slice A1 n1 c1]) :=
    ⟨rfl, .inr ⟨w.heap.size, 1, _, rfl, Nat.le_refl _, heap_alloc_new w _, Nat.le_refl _, by decide, rfl, rfl⟩⟩
  have BA : Hid (Below w.heap.size w (w.alloc (.cells #[.slice A1 n1 c1] 22))) := (Below.refl _ w).alloc (Nat.le_refl _) _
  have PL : Hid ((ps.map ptV).length = np) := by show _ = _; rw [List.length_map]; exact HP.out.1
  have PO : Hid (∀ u ∈ ps.map ptV, u.oneCell' = true) := by intro u hu; obtain ⟨p, _, rfl⟩ := List.mem_map.1 hu; rfl
  have PC : Hid (0 < np → ∃ b o, Ap = some ⟨b, o, none⟩ ∧ ∀ j u, (ps.map ptV)[j]? = some u → (w.alloc (.cells #[.slice A1 n1 c1] 22)).cell? ⟨b, o + j, none⟩ = some u) := by
    intro h0
    obtain ⟨b, o, e, hb, hcc⟩ := HP.out.2.1 h0
    refine ⟨b, o, e, fun j u hu => ?_⟩
    rw [List.getElem?_map] at hu
    obtain ⟨p, hp, rfl⟩ := Option.map_eq_some_iff.1 hu
    rw [BA.out.cell (p := ⟨b, o + j, none⟩) hb]
    exact hcc j p hp
  clear h1 hc1 hc1' hp hz
  go_enter Try.func24, Try.ntmps24
  go_wp2_with (first
    | (at_builtin; refine wpList_appP rfl (.tmp 6) (.tmp 7) 41 rfl w.heap.size 22 Try.underlying41 info_bs _ 1 [.slice A1 n1 c1] rfl OW.out Ap np cp (ps.map ptV) rfl PL.out PO.out PC.out (by omega) (le_alloc _ _) ?_; intro v2 w2 ho2 hb2; have O2 := Lib.hid ho2; have B2 := Lib.hid (BA.out.trans hb2); clear ho2 hb2)
    | fail)
  obtain ⟨A2, c2, rfl, hp2⟩ := ptsF_own (ps := ⟨A1, n1, c1, l1⟩ :: ps) O2.out (by
    intro p hp
    rcases List.mem_cons.1 hp with rfl | hp
    · exact ⟨((R1.out.1.below B2.out).more B2.out.size).rdF (fun b hb => hb), R1.out.2⟩
    · obtain ⟨h1, h2⟩ := HP.out.2.2 p hp
      exact ⟨(h1.keep (fun b hb => B2.out.block b hb)).imp (fun b hb => Nat.lt_of_lt_of_le hb B2.out.size), h2⟩)
  have P2 := Lib.hid hp2
  clear hp2
  have CE : Hid (catP (⟨A1, n1, c1, l1⟩ :: ps) = l1 ++ catP ps) := by show _ = _; simp [catP]
  refine (csum_any A2 (1 + np) c2 _ w2 P2.out (by rw [CE.out]; exact HZ.out) (by omega)).mono ?_
  rintro e w4 ⟨v4, rfl, ho4, hb4⟩
  rw [CE.out] at ho4
  have O4 := Lib.hid (ho4.low B2.out.size)
  have B4 := Lib.hid (B2.out.trans (hb4.mono B2.out.size))
  clear ho4 hb4
  go_wp2_with fail
  go_ret
  exact ⟨_, rfl, O4.out, B4.out⟩

set_option maxRecDepth 100000 in
set_option maxHeartbeats 1000000 in
theorem ctag_any (A : Option Addr) (n c : Nat) (k : List UInt8) (Ap : Option Addr) (np cp : Nat) (ps : List Pt) (w : World) (h : Rd w w.heap.size A n k) (hnc : n ≤ c) (hc : c ≤ 9223372036854775807) (hn : n ≤ 274877906944) (hp : PtsF w (· < w.heap.size) Ap np ps) (hz : (catP ps).length ≤ 274877906944) (hnp : np ≤ 1048576) :
    Calls Try.prog 11 #[.slice A n c, .slice Ap np cp] w (GivesO 5 (tagL k (catP ps)) w) := by
  have HP := Lib.hid hp
  have HZ := Lib.hid hz
  have C1 := Lib.hid (ckey_any A n c _ k w h (Nat.le_refl _) hnc hc hn)
  have CM := Lib.hid (fun (W : World) (A1 : Option Addr) (c1 : Nat) (hR : Rd W W.heap.size A1 64 (keyL k)) (h1 : 64 ≤ c1) (h2 : c1 ≤ 9223372036854775807) => (show Calls Try.prog 25 #[.slice A1 64 c1, .int .u8 54] W _ from cmasked_any A1 64 c1 (keyL k) 0x36 W hR (by decide) h1 h2 (by decide)))
  have CN := Lib.hid (fun (W : World) (A1 : Option Addr) (c1 : Nat) (hR : Rd W W.heap.size A1 64 (keyL k)) (h1 : 64 ≤ c1) (h2 : c1 ≤ 9223372036854775807) => (show Calls Try.prog 25 #[.slice A1 64 c1, .int .u8 92] W _ from cmasked_any A1 64 c1 (keyL k) 0x5c W hR (by decide) h1 h2 (by decide)))
  have XL := Lib.hid (fun x : UInt8 => show (xorL (keyL k) x).length = 64 by rw [xorL_length, keyL_length])
  have KLL := Lib.hid (keyL_length k)
  clear h hp hz
  go_enter Try.func11, Try.ntmps11
  go_wp2_with fail
  refine C1.out.mono ?_
  rintro e w1 ⟨v1, rfl, ho1, hb1⟩
  obtain ⟨A1, c1, rfl, hc1, hm1, hr1⟩ := Ob.rd_n ho1 KLL.out
  have R1 := Lib.hid (And.intro hr1 (And.intro hc1 (show c1 ≤ 9223372036854775807 by unfold maxLen at hm1; omega)))
  have B1 := Lib.hid hb1
  clear ho1 hb1 hr1 hc1 hm1
  go_wp2_with fail
  refine (CM.out w1 A1 c1 R1.out.1 R1.out.2.1 R1.out.2.2).mono ?_
  rintro e w2 ⟨v2, rfl, ho2, hb2⟩
  obtain ⟨A2, c2, rfl, hc2, hm2, hr2⟩ := Ob.rd_n ho2 (XL.out _)
  have R2 := Lib.hid (And.intro hr2 (And.intro hc2 (show c2 ≤ 9223372036854775807 by unfold maxLen at hm2; omega)))
  have R12 := Lib.hid ((R1.out.1.below hb2).more hb2.size)
  have B2 := Lib.hid (B1.out.trans (hb2.mono B1.out.size))
  have P2 := Lib.hid ((HP.out.keep (fun b hb => B2.out.block b hb)).imp (fun b hb => Nat.lt_of_lt_of_le hb B2.out.size))
  clear ho2 hb2 hr2 hc2 hm2
  go_wp2_with fail
  refine (csumBehind_any A2 64 c2 _ Ap np cp ps w2 R2.out.1 R2.out.2.1 R2.out.2.2 P2.out (by rw [List.length_append, XL.out]; have := HZ.out; omega) hnp).mono ?_
  rintro e w3 ⟨v3, rfl, ho3, hb3⟩
  obtain ⟨A3, c3, rfl, hc3, hm3, hr3⟩ := Ob.rd_n ho3 (shaL_size _)
  have R3 := Lib.hid (And.intro hr3 (And.intro hc3 (show c3 ≤ 9223372036854775807 by unfold maxLen at hm3; omega)))
  have R13 := Lib.hid ((R12.out.below hb3).more hb3.size)
  have B3 := Lib.hid (B2.out.trans (hb3.mono B2.out.size))
  clear ho3 hb3 hr3 hc3 hm3
  go_wp2_with fail
  refine (CN.out w3 A1 c1 R13.out R1.out.2.1 R1.out.2.2).mono ?_
  rintro e w4 ⟨v4, rfl, ho4, hb4⟩
  obtain ⟨A4, c4, rfl, hc4, hm4, hr4⟩ := Ob.rd_n ho4 (XL.out _)
  have R4 := Lib.hid (And.intro hr4 (And.intro hc4 (show c4 ≤ 9223372036854775807 by unfold maxLen at hm4; omega)))
  have R34 := Lib.hid ((R3.out.1.below hb4).more hb4.size)
  have B4 := Lib.hid (B3.out.trans (hb4.mono B3.out.size))
  clear ho4 hb4 hr4 hc4 hm4
  have CE : Hid (catP [⟨A3, 32, c3, shaL (xorL (keyL k) 54 ++ catP ps)⟩] = shaL (xorL (keyL k) 54 ++ catP ps)) := catP_one _
  have C5 := Lib.hid (csumBehind_any A4 64 c4 _ (some ⟨w4.heap.size, 0, none⟩) 1 1 [⟨A3, 32, c3, shaL (xorL (keyL k) 54 ++ catP ps)⟩] (w4.alloc (.cells #[.slice A3 32 c3] 22)) ((R4.out.1.alloc (Nat.le_refl _) _).more (le_alloc _ _)) R4.out.2.1 R4.out.2.2
    (ptsF_lit w4 22 [⟨A3, 32, c3, shaL (xorL (keyL k) 54 ++ catP ps)⟩] #[.slice A3 32 c3] rfl 1 rfl (fun p hp => by rw [List.mem_singleton.1 hp]; exact ⟨R34.out, R3.out.2⟩)) (by rw [CE.out, List.length_append, XL.out, shaL_size]; decide) (by decide))
  rw [CE.out] at C5
  go_wp2_with fail
  refine C5.out.mono ?_
  rintro e w5 ⟨v5, rfl, ho5, hb5⟩
  have O5 := Lib.hid (ho5.low (Nat.le_trans B4.out.size (le_alloc _ _)))
  have B5 := Lib.hid ((B4.out.alloc B4.out.size _).trans (hb5.mono (Nat.le_trans B4.out.size (le_alloc _ _))))
  clear ho5 hb5
  go_wp2_with fail
  go_ret
  exact ⟨_, rfl, O5.out, B5.out⟩

theorem below_drew8 (B : Nat) (w : World) : Below B w w.drew := Below.drew (Below.refl B w)
theorem info_a32 : (Try.prog.info? 44).map (·.size) = some 32 := by kernel_rfl
theorem eql32 (l l' : List UInt8) (h : l.length = 32) (h' : l'.length = 32) (W : World) : (Op.equalIn 10000 44 (.agg (l.map bv).toArray) (.agg (l'.map bv).toArray)).run Try.prog W = .ok (l == l') W := by
  obtain ⟨i, hi, _⟩ := Option.map_eq_some_iff.1 info_u8
  exact run_eqlB (P := Try.prog) W 9998 Try.underlying44 hi (by kernel_rfl) Try.underlying5 l l' h h'
theorem exec_ldV {P : Program} {o : Oper} {a : Act} {w : World} (ty : TypeId) (x : Operand) (ho : o.op = .load ty x) (ad : Addr) (hx : a.eval x = .pointer (some ad)) (v : Value) (hv : (loadVar ty ad).run P w = .ok v w) : (execOp a.eval o).run P w = .ok (.value v) w := by
  unfold execOp
  simp only [ho, hx, Instr.loadAt, Instr.sureAddr, Sem.run_bind, Sem.run_pure, Result.andThen_ok, hv]
theorem wp_ldV {P : Program} {o : Oper} {a : Act} {w : World} {K : Act → World → Prop} {Q : Exit → Act → World → Prop} (ty : TypeId) (x : Operand) (ho : o.op = .load ty x) (ad : Addr) (hx : a.eval x = .pointer (some ad)) (v : Value) (hv : (loadVar ty ad).run P w = .ok v w) (h : K (a.put o.dst v) w) : Oper.wp P o a w K Q := by
  unfold Oper.wp
  rw [exec_ldV ty x ho ad hx v hv]
  exact h

set_option maxRecDepth 100000 in
set_option maxHeartbeats 1000000 in
theorem cverify_any (A : Option Addr) (n c : Nat) (k : List UInt8) (At : Option Addr) (nt ct : Nat) (tg : List UInt8) (Ap : Option Addr) (np cp : Nat) (ps : List Pt) (w : World) (h : Rd w w.heap.size A n k) (hnc : n ≤ c) (hc : c ≤ 9223372036854775807) (hn : n ≤ 274877906944) (ht : Rd w w.heap.size At nt tg) (hp : PtsF w (· < w.heap.size) Ap np ps) (hz : (catP ps).length ≤ 274877906944) (hnp : np ≤ 1048576) :
    Calls Try.prog 18 #[.slice A n c, .slice At nt ct, .slice Ap np cp] w fun e w' => e = .returned (.bool (tg == tagL k (catP ps))) ∧ Below w.heap.size w w' := by
  by_cases h32 : nt = 32
  · subst h32
    obtain ⟨ad, rfl, -⟩ := run_ldB (P := Try.prog) w Try.underlying44 info_a32 (by decide) ht
    have HL1 : Hid (∀ W, Below w.heap.size w W → (loadVar 44 ad).run Try.prog W = .ok (.agg (tg.map bv).toArray) W) := fun W hW => by
      obtain ⟨ad2, e, g⟩ := run_ldB (P := Try.prog) W Try.underlying44 info_a32 (by decide) (ht.below hW)
      injection e with e; subst e; exact g
    have A1 : ∀ W, (Instr.arrayAt 44 (.slice (some ad) 32 ct)).run Try.prog W = .ok (.pointer (some ad)) W := fun W => by
      simp [Instr.arrayAt, run_underlying Try.underlying44]
    have E := eql32 tg (tagL k (catP ps)) ht.1 (tagL_length k _)
    have TL := Lib.hid (tagL_length k (catP ps))
    have C1 := Lib.hid (ctag_any A n c k Ap np cp ps w.drew h hnc hc hn hp hz hnp)
    clear h ht hp hz
    have HY : Hid (∀ (W : World) (B : Nat) (A' : Option Addr), Rd W B A' 32 (tagL k (catP ps)) → ∃ ad', A' = some ad' ∧ (loadVar 44 ad').run Try.prog W = .ok (.agg ((tagL k (catP ps)).map bv).toArray) W) := fun W B A' hr => run_ldB (P := Try.prog) W Try.underlying44 info_a32 (by decide) hr
    obtain ⟨Y, hY⟩ : ∃ Y, Y = ((tagL k (catP ps)).map bv).toArray := ⟨_, rfl⟩
    rw [← hY] at E HY
    clear hY
    generalize (tg.map bv).toArray = X at *
    generalize (tg == tagL k (catP ps)) = b at *
    go_enter Try.func18, Try.ntmps18
    go_wp2_with fail
    refine wp_region_held_drew (S := fun W => (loadVar 44 ad).run Try.prog W = .ok (.agg X) W) (by kernel_rfl) (HL1.out _ (below_drew8 _ _)) (fun hHeld => ?_)
    refine takeWS (i := 0) (v := ?v0) rfl (by kernel_rfl) (by kernel_rfl) (by kernel_rfl) (fun _ _ _ h => h) (by rfl) ?hy0 (by assumption) ?rest0
    case hy0 => (intro w hSw; go_simp; try with_reducible rfl)
    try simp only [Act.put, List.setIfInBounds_toArray, List.set_cons_zero, List.set_cons_succ]
    refine takeWS (i := 1) (v := ?v1) rfl (by kernel_rfl) (by kernel_rfl) (by kernel_rfl) (fun _ _ _ h => h) (by rfl) ?hy1 (by assumption) ?rest1
    case hy1 => (intro w hSw; go_simp; try with_reducible rfl)
    try simp only [Act.put, List.setIfInBounds_toArray, List.set_cons_zero, List.set_cons_succ]
    refine takeWS (i := 2) (v := .agg X) rfl (by kernel_rfl) (by kernel_rfl) (by kernel_rfl) (fun _ _ _ h => h) (by rfl) (fun W hW => exec_ldV 44 (.tmp 11) rfl ad rfl _ hW) (by assumption) ?rest2
    try simp only [Act.put, List.setIfInBounds_toArray, List.set_cons_zero, List.set_cons_succ]
    refine takeWS (i := 3) (v := ?v3) rfl (by kernel_rfl) (by kernel_rfl) (by kernel_rfl) (fun _ _ _ h => h) (by rfl) ?hy3 (by assumption) ?rest3
    case hy3 => (intro w hSw; go_simp; try with_reducible rfl)
    try simp only [Act.put, List.setIfInBounds_toArray, List.set_cons_zero, List.set_cons_succ]
    refine takeWS (i := 4) (v := ?v4) rfl (by kernel_rfl) (by kernel_rfl) (by kernel_rfl) (fun _ _ _ h => h) (by rfl) ?hy4 (by assumption) ?rest4
    case hy4 => (intro w hSw; go_simp; try with_reducible rfl)
    try simp only [Act.put, List.setIfInBounds_toArray, List.set_cons_zero, List.set_cons_succ]
    refine wpAnyH_ready (rs := [5]) (by kernel_rfl) (by simp) ?_
    refine AllReadyH.cons rfl (fun K hK => ?_) AllReadyH.nil
    go_simp
    refine C1.out.mono ?_
    rintro e w1 ⟨v1, rfl, ho1, hb1⟩
    obtain ⟨A1', c1, rfl, -, -, hr1⟩ := Ob.rd_n ho1 TL.out
    obtain ⟨ad', rfl, hl2⟩ := HY.out _ _ _ hr1
    have HL2 := Lib.hid hl2
    have A2 : ∀ W, (Instr.arrayAt 44 (.slice (some ad') 32 c1)).run Try.prog W = .ok (.pointer (some ad')) W := fun W => by
      simp [Instr.arrayAt, run_underlying Try.underlying44]
    have B1 : Hid (Below w.heap.size w w1) := (below_drew8 _ w).trans hb1
    clear ho1 hb1 hr1 hl2
    go_simp
    refine hK.out _ _ (HL1.out _ B1.out) (fun hHeld => ?_)
    try simp only [Act.put, List.setIfInBounds_toArray]
    clear hK K
    refine takeWS (i := 6) (v := ?v6) rfl (by kernel_rfl) (by kernel_rfl) (by kernel_rfl) (fun _ _ _ h => h) (by rfl) ?hy6 (by assumption) ?rest6
    case hy6 => (intro w hSw; go_simp; try with_reducible rfl)
    try simp only [Act.put, List.setIfInBounds_toArray, List.set_cons_zero, List.set_cons_succ]
    refine wpAnyH_ready (rs := [7]) (by kernel_rfl) (by simp) ?_
    refine AllReadyH.cons rfl (fun K hK => ?_) AllReadyH.nil
    rw [if_pos (by rfl)]
    refine wp_ldV 44 (.tmp 16) rfl ad' rfl (.agg Y) HL2.out ?_
    go_simp
    refine hK.out _ _ (HL1.out _ B1.out) (fun hHeld => ?_)
    try simp only [Act.put, List.setIfInBounds_toArray, List.set_cons_zero, List.set_cons_succ]
    clear hK K
    refine takeWS (i := 8) (v := ?v8) rfl (by kernel_rfl) (by kernel_rfl) (by kernel_rfl) (fun _ _ _ h => h) (by rfl) ?hy8 (by assumption) ?rest8
    case hy8 => (intro w hSw; go_simp; try with_reducible rfl)
    try simp only [Act.put, List.setIfInBounds_toArray, List.set_cons_zero, List.set_cons_succ]
    refine takeWS (i := 9) (v := ?v9) rfl (by kernel_rfl) (by kernel_rfl) (by kernel_rfl) (fun _ _ _ h => h) (by rfl) ?hy9 (by assumption) ?rest9
    case hy9 => (intro w hSw; go_simp; try with_reducible rfl)
    try simp only [Act.put, List.setIfInBounds_toArray, List.set_cons_zero, List.set_cons_succ]
    refine wpAnyH_done (by kernel_rfl) ?_ _
    go_wp2_with fail
    go_ret
    exact ⟨rfl, B1.out⟩
  · have e1 : ((nt : Int) != 32) = true := by simp; omega
    have HF := Lib.hid (show (tg == tagL k (catP ps)) = false from beq_eq_false_iff_ne.2 (fun e => h32 (by have := congrArg List.length e; rw [ht.1, tagL_length] at this; exact this)))
    clear h ht hp hz h32
    go_enter Try.func18, Try.ntmps18
    go_wp2_with fail
    go_ret
    exact ⟨(show Ending.returned _ = Ending.returned _ by rw [HF.out]; rfl), Below.refl _ _⟩
end Go.Proofs.Ytllodapnbdbpeaa
