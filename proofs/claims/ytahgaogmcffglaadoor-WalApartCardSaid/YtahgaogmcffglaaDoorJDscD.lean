/- The code's disk: Write. -/
import Derived.Test.YtahgaogmcffglaaDoorJDscC
import Derived.Great.FillDense
import Derived.Great.BuildSlice
namespace Go.Proofs.YtahgaogmcffglaaDoor
open Go.RowKit

/-- A write to the code's disk, and what it answers. -/
def Cd.write (D : Cd) (at_ : Int) (b : List UInt8) : Cd × Int :=
  if D.power = false then (D, 131) else if at_ < 0 ∨ (D.secs.length : Int) ≤ at_ then (D, 130) else if b.length ≠ 64 then (D, 2) else if D.fp.power = false then (D.fp, 131)
  else ({ D.fp with waits := D.waits ++ [(at_.toNat, b)] }, 0)
def CWriteR (w : World) (F : Nat → Prop) (B g : Nat) (r : Cd × Int) (e : Ending) (w' : World) : Prop := ∃ F', CDk w' F' B g r.1 ∧ e = .returned (.int .i64 r.2) ∧ Fr F w w' ∧ Grew w F F'
theorem Cd.fp_secs (D : Cd) : D.fp.secs = D.secs := by unfold Cd.fp; split <;> (try split) <;> rfl
theorem Cd.fp_waits (D : Cd) : D.fp.waits = D.waits := by unfold Cd.fp; split <;> (try split) <;> rfl
theorem step_bs13 {P : Program} {w : World} {ops : Array Oper} {o : Oper} {a : Act} {K : Act → World → Prop} {Q : Exit → Act → World → Prop} {E : Prop} (hgd : o.guard = none) (t e : TypeId) (x : Operand) (ho : o.op = .buildSlice t 1 #[(0, x)])
    (cells : Array Value) (hx : a.eval x = .agg cells) (n : Nat) (hn : cells.size = n) (h0 : 0 < n) (hs : n ≤ 1000) (hu : P.underlying t = some (.slice e)) (z : Value) (hi : (P.info? e).map (fun i => (i.zero, i.size)) = some (some z, n)) (hz : z.cells.size = n)
    (h : K (a.put o.dst (.slice (some ⟨w.heap.size, 0, none⟩) 1 1)) (w.alloc (.cells cells e))) : if Region.wanted o (yielded ops a.tmps) = true then Oper.wp P o a w K Q else E := by
  have hw : Region.wanted o (yielded ops a.tmps) = true := by simp [Region.wanted, hgd]
  rw [if_pos hw]
  obtain ⟨i, hie, hzz⟩ := Option.map_eq_some_iff.1 hi
  simp only [Prod.mk.injEq] at hzz
  obtain ⟨hz0, hs0⟩ := hzz
  refine wp_buildSlice t e 1 _ ho cells i z hu hie hz0 (by rw [hs0]; omega) (by rw [hs0]; omega) ?_ h
  have hf := Great.fill_whole h0 [.agg cells] ((Array.range (1 * n)).map (z.cells[· % z.cells.size]!)) (by intro v hv; rw [List.mem_singleton] at hv; subst hv; exact hn) (by simp)
  have ep : (Array.map (fun x : Nat × Operand => (x.1, a.eval x.2)) #[(0, x)]).toList = ([.agg cells].zipIdx 0).map fun x => (x.2, x.1) := by simp [hx]
  rw [hs0]
  rw [ep, hf]
  simp [Value.cells]
theorem Rd.src13 {w : World} {B n : Nat} {A : Option Addr} {l : List UInt8} (h : Rd w B A n l) (h0 : 0 < n) : ∃ ad, A = some ad ∧ ∀ j u, (l.map bv)[j]? = some u → w.cell? (ad.add j) = some u := by
  obtain ⟨b, o, rfl, _, hc⟩ := h.2 h0
  refine ⟨_, rfl, fun j u hu => ?_⟩
  have hj : j < l.length := by
    rcases Nat.lt_or_ge j l.length with h1 | h1
    · exact h1
    · rw [List.getElem?_eq_none (by simpa using h1)] at hu; cases hu
  have hh := hc j (by rw [← h.1]; exact hj)
  rw [add_mk, hh, ← hu]
  simp [List.getD, hj, bv]
/-- append of one thing of several cells onto a row of one's own. -/
theorem step_ownN13 {P : Program} {w : World} {ops : Array Oper} {o : Oper} {a : Act} {K : Act → World → Prop} {Q : Exit → Act → World → Prop} {E : Prop} (hgd : o.guard = none) (s x : Operand) (t : TypeId)
    (ho : o.op = .call { callee := .builtin .append, args := #[s, x], argTypes := #[t, t] })
    (base : Nat) (e : TypeId) (z : Value) (size bytes : Nat) (ht : P.underlying t = some (.slice e)) (hinfo : (P.info? e).map (fun i => (i.zero, i.size, i.bytes)) = some (some z, size, bytes)) (hz1 : z.cells.size = size) (hsz : 0 < size)
    (v : Value) (n : Nat) (xs : List Value) (hs : a.eval s = v) (hown : w.ownsRow base e size v n xs) (ad : Addr) (c : Nat) (news : List Value) (hx : a.eval x = .slice (some ad) 1 c) (hl : news.length = size) (hnews : ∀ j u, news[j]? = some u → w.cell? (ad.add j) = some u) (h1 : ∀ u ∈ news, u.oneCell' = true)
    (hlen : n + 1 ≤ 2000000) (hbytes : (n + 1) * bytes ≤ 140737488355328) (hbase : base ≤ w.heap.size)
    (h : ∀ v' w', w'.ownsRow base e size v' (n + 1) (xs ++ news) → w.grownBy w' v.ownBlock → (v'.ownBlock = v.ownBlock ∨ v'.ownBlock = some w.heap.size) → K (a.put o.dst v') w') : if Region.wanted o (yielded ops a.tmps) = true then Oper.wp P o a w K Q else E :=
  step_own13 hgd s x t ho base e z size bytes ht hinfo hz1 hsz v n xs hs hown ad c news hx hl hnews h1 hlen hbytes hbase h
theorem exec_ldN {P : Program} {ev : Operand → Value} {o : Oper} {ty : TypeId} {x : Operand} (ho : o.op = .load ty x) {ad : Addr} (hx : ev x = .pointer (some ad)) {W : World} {v : Value} (hl : (loadVar ty ad).run P W = .ok v W) :
    (execOp ev o).run P W = .ok (.value v) W := by
  unfold execOp
  simp only [ho, hx, Instr.loadAt, Instr.sureAddr, Sem.run_bind, Sem.run_pure, Result.andThen_ok, hl]
theorem wr_info : (Tryd.prog.info? 79).map (·.size) = some 65 := by kernel_rfl
theorem wr_all : (Tryd.prog.info? 79).map (fun i => (i.zero, i.size, i.bytes)) = some (some (.agg (wcs (0, z64)).toArray), 65, 72) := by kernel_rfl
theorem wr_zero (w : World) : (zeroValue 79).run Tryd.prog w = .ok (.agg (wcs (0, z64)).toArray) w :=
  (zero_of_info (P := Tryd.prog) (t := 79) (v := .agg (wcs (0, z64)).toArray) (n := 65) (by kernel_rfl)).1 w
theorem wr_built (a : Nat) : Tryd.prog.built 79 [(0, .int .i64 (a : Int))] = some (wcs (a, z64)).toArray := by kernel_rfl
theorem splice_wcs (a : Nat) (b : List UInt8) (hb : b.length = 64) : splice (wcs (a, z64)) 1 (b.map bv) = wcs (a, b) := by
  unfold splice wcs
  rw [List.length_map, hb]
  simp [z64]
/-- One write more that waits. -/
theorem CDk.wrote {w1 wx wy : World} {F : Nat → Prop} {B g ga : Nat} {D : Cd} {vw vw' : Value} {b : List UInt8} (h : CDk w1 F B g D)
    (h1 : w1.heap[g]? = some (.cells #[.slice (some ⟨ga, 0, none⟩) D.secs.length D.secs.length, vw, .bool D.power, .int .i64 D.left] 83 (0, 0)))
    (h2 : w1.heap[ga]? = some (.cells (D.secs.flatten.map bv).toArray 77 (0, 0))) (h3 : F ga) (h4 : B ≤ ga) (h5 : ga ≠ g) (h8 : ∀ b, vw.ownBlock = some b → F b ∧ b ≠ g ∧ b ≠ ga)
    (hBs : B ≤ w1.heap.size) (hbx : Below w1.heap.size w1 wx) (hbl : b.length = 64) (i : Nat) (hin : i < D.secs.length)
    (hown : wy.ownsRow B 79 65 vw' (D.waits.length + 1) (rowW D.waits ++ wcs (i, b))) (hg : wx.grownBy wy vw.ownBlock) (hat : vw'.ownBlock = vw.ownBlock ∨ vw'.ownBlock = some wx.heap.size) :
    CDk (wy.setCell ⟨g, 1, none⟩ vw') (fun k => F k ∨ (w1.heap.size ≤ k ∧ k < wy.heap.size)) B g { D with waits := D.waits ++ [(i, b)] } ∧ Fr F w1 (wy.setCell ⟨g, 1, none⟩ vw') := by
  have hgl := (h.fit g h.fg).2
  have keep : ∀ k, F k → vw.ownBlock ≠ some k → wy.heap[k]? = w1.heap[k]? := fun k hk hne => (hg.block k (Nat.lt_of_lt_of_le (h.fit k hk).2 hbx.size) (fun e => hne e.symm)).trans (hbx.block k (h.fit k hk).2)
  have hvg : vw.ownBlock ≠ some g := fun e => (h8 g e).2.1 rfl
  have hva : vw.ownBlock ≠ some ga := fun e => (h8 ga e).2.2 rfl
  have hnew : ∀ k, vw'.ownBlock = some k → (vw.ownBlock = some k ∨ k = wx.heap.size) := fun k e => by
    rcases hat with h | h
    · exact .inl (h ▸ e)
    · right; rw [h] at e; injection e with e; exact e.symm
  have hsy := hg.size
  have hsx := hbx.size
  have hF : Fr F w1 (wy.setCell ⟨g, 1, none⟩ vw') := ((Fr.of_below hbx).grown hg (fun j e => .inl (h8 j e).1)).setCell (p := ⟨g, 1, none⟩) (.inl h.fg) _
  have row : ∀ k, k ≠ g → (wy.setCell ⟨g, 1, none⟩ vw').heap[k]? = wy.heap[k]? := fun k hk => Below.heap_setCell _ _ _ _ hk
  have hownlt : ∀ k, vw'.ownBlock = some k → k < wy.heap.size := fun k e => (World.ownsRow.lt hown k e).2
  refine ⟨⟨h.le, .inl h.fg, h.wide, h.pos, h.few, fun x hx => by
    rcases List.mem_append.1 hx with hx | hx
    · exact h.inn x hx
    · rw [List.mem_singleton] at hx; subst hx; exact hin, fun x hx => by
    rcases List.mem_append.1 hx with hx | hx
    · exact h.wid x hx
    · rw [List.mem_singleton] at hx; subst hx; exact hbl, fun k hk => ?_, ga, vw', ?_, ?_, .inl h3, h4, h5, ?_, fun k e => ?_⟩, hF⟩
  · rw [World.size_setCell]
    rcases hk with hk | hk
    · exact ⟨(h.fit k hk).1, by have := (h.fit k hk).2; omega⟩
    · exact ⟨by omega, hk.2⟩
  · have := row_setC ((keep g h.fg hvg).trans h1) 1 vw'
    simpa using this
  · exact (row ga h5).trans ((keep ga h3 hva).trans h2)
  · show (wy.setCell ⟨g, 1, none⟩ vw').ownsRow B 79 65 vw' (D.waits ++ [(i, b)]).length (rowW (D.waits ++ [(i, b)]))
    rw [show (D.waits ++ [(i, b)]).length = D.waits.length + 1 by simp, rowW_snoc]
    refine owns_same hown (fun k e => row k ?_)
    rintro rfl
    rcases hnew k e with e | e
    · exact hvg e
    · omega
  · rcases hnew k e with e3 | e3
    · exact ⟨.inl (h8 k e3).1, (h8 k e3).2⟩
    · refine ⟨.inr ⟨by omega, hownlt k e⟩, by omega, by have := (h.fit ga h3).2; omega⟩

set_option maxRecDepth 100000 in
set_option maxHeartbeats 4000000 in
theorem cwrite_any (w : World) {F : Nat → Prop} {B g B0 n c : Nat} {D : Cd} {A : Option Addr} {b : List UInt8} (at_ : Int) (h : CDk w F B g D) (hr : Rd w B0 A n b) (hB0 : B0 ≤ w.heap.size) (hnf : ∀ ad, A = some ad → ¬ F ad.block) (hws : D.waits.length ≤ 1000000) :
    Calls Tryd.prog 12 #[.pointer (some ⟨g, 0, none⟩), .int .i64 at_, .slice A n c] w (CWriteR w F B g (D.write at_ b)) := by
  have C1 := Lib.hid (creaches_any w at_ h)
  have H := Lib.hid h
  have HR := Lib.hid (And.intro hr hB0)
  have HNF := Lib.hid hnf
  have HWS := Lib.hid hws
  have hbl : b.length = n := hr.1
  clear hnf hws hr hB0
  cases hd : D.power with
  | false =>
    have HG : Hid (D.reach at_ = 131 ∧ D.write at_ b = (D, 131)) := by show _ ∧ _; simp [Cd.reach, Cd.write, hd]
    rw [HG.out.2]
    rw [HG.out.1] at C1
    clear hd h hbl
    go_enter Tryd.func12, Tryd.ntmps12
    go_wp2_with fail
    refine C1.out.mono ?_
    rintro e w1 ⟨rfl, rfl⟩
    go_wp2_with fail
    go_ret
    exact (show CWriteR _ _ _ _ _ _ _ from ⟨F, H.out, rfl, Fr.refl F w, Grew.refl w F⟩)
  | true =>
    by_cases h0 : at_ < 0 ∨ (D.secs.length : Int) ≤ at_
    · have HG : Hid (D.reach at_ = 130 ∧ D.write at_ b = (D, 130)) := by show _ ∧ _; simp [Cd.reach, Cd.write, hd, h0]
      rw [HG.out.2]
      rw [HG.out.1] at C1
      clear hd h hbl h0
      go_enter Tryd.func12, Tryd.ntmps12
      go_wp2_with fail
      refine C1.out.mono ?_
      rintro e w1 ⟨rfl, rfl⟩
      go_wp2_with fail
      go_ret
      exact (show CWriteR _ _ _ _ _ _ _ from ⟨F, H.out, rfl, Fr.refl F w, Grew.refl w F⟩)
    have HR0 : Hid (D.reach at_ = 0) := by show _ = _; simp [Cd.reach, hd, h0]
    rw [HR0.out] at C1
    by_cases h64 : n = 64
    case neg =>
      have HG : Hid (D.write at_ b = (D, 2)) := by show _ = _; rw [Cd.write, if_neg (by simp [hd]), if_neg h0, if_pos (by omega)]
      have t2 : ((n : Int) != 64) = true := by simp; omega
      rw [HG.out]
      clear hd h hbl h0
      go_enter Tryd.func12, Tryd.ntmps12
      go_wp2_with fail
      refine C1.out.mono ?_
      rintro e w1 ⟨rfl, rfl⟩
      go_wp2_with fail
      go_ret
      exact (show CWriteR _ _ _ _ _ _ _ from ⟨F, H.out, rfl, Fr.refl F w, Grew.refl w F⟩)
    subst h64
    have C2 := Lib.hid (cfinds_any w H.out)
    cases hg : D.fp.power with
    | false =>
      have HG : Hid (D.write at_ b = (D.fp, 131)) := by show _ = _; rw [Cd.write, if_neg (by simp [hd]), if_neg h0, if_neg (by omega), if_pos hg]
      rw [HG.out]
      rw [hg] at C2
      clear hd h hbl h0 hg
      go_enter Tryd.func12, Tryd.ntmps12
      go_wp2_with fail
      refine C1.out.mono ?_
      rintro e w1 ⟨rfl, rfl⟩
      go_wp2_with fail
      refine C2.out.mono ?_
      rintro e w1 ⟨rfl, hr1, hf1⟩
      have H1 := Lib.hid (And.intro hr1 hf1)
      clear hr1 hf1
      go_wp2_with fail
      go_ret
      exact (show CWriteR _ _ _ _ _ _ _ from ⟨F, H1.out.1, rfl, H1.out.2, Grew.refl w F⟩)
    | true =>
      obtain ⟨at_, rfl⟩ : ∃ a : Nat, at_ = (a : Int) := ⟨at_.toNat, by omega⟩
      have HG : Hid (D.write (at_ : Int) b = ({ D.fp with waits := D.waits ++ [(at_, b)] }, 0)) := by show _ = _; rw [Cd.write, if_neg (by simp [hd]), if_neg h0, if_neg (by omega), if_neg (by simp [hg]), Int.toNat_natCast]
      rw [HG.out]
      rw [hg] at C2
      have HAT : Hid (b.length = 64 ∧ at_ < D.fp.secs.length) := ⟨hbl, by rw [Cd.fp_secs]; omega⟩
      clear hd h hbl h0 hg
      go_enter Tryd.func12, Tryd.ntmps12
      go_wp2_with fail
      refine C1.out.mono ?_
      rintro e w1 ⟨rfl, rfl⟩
      go_wp2_with fail
      refine C2.out.mono ?_
      rintro e w1 ⟨rfl, hr1, hf1⟩
      have H1 := Lib.hid (And.intro hr1 hf1)
      clear hr1 hf1
      obtain ⟨wa, hwa⟩ : ∃ wa, wa = w1.alloc (.cells (wcs (0, z64)).toArray 79) := ⟨_, rfl⟩
      have XA : Hid (wa.heap[w1.heap.size]? = some (.cells (wcs (0, z64)).toArray 79 (0, 0))) := by show _ = _; rw [hwa]; exact heap_alloc_new w1 _
      have BA : Hid (Below w1.heap.size w1 wa) := by show Below _ _ _; rw [hwa]; exact (Below.refl _ _).alloc (Nat.le_refl _) _
      have WA := Lib.hid hwa
      have LW : ∀ (a : Nat) (l : List UInt8), l.length = 64 → (wcs (a, l)).length = 65 := fun a l e => wcs_len e
      have LWH := Lib.hid LW
      have LZ : Hid (z64.length = 64) := rfl
      have LB : Hid ((b.map bv).length = 64) := by show _ = _; rw [List.length_map, HAT.out.1]
      have HRB : Hid (Rd w1 w1.heap.size A 64 b) := by
        have h2 : ∀ k, k < w.heap.size → ¬ F k → w1.heap[k]? = w.heap[k]? := H1.out.2.block
        refine ⟨HR.out.1.1, fun h0 => ?_⟩
        obtain ⟨k, o2, e2, hk, hc⟩ := HR.out.1.2 h0
        exact ⟨k, o2, e2, Nat.lt_of_lt_of_le (Nat.lt_of_lt_of_le hk HR.out.2) H1.out.2.size, fun i hi => (World.cell?_of_block (w := w) (a := ⟨k, o2 + i, none⟩) (h2 k (Nat.lt_of_lt_of_le hk HR.out.2) (HNF.out _ e2))).trans (hc i hi)⟩
      clear hwa LW
      go_wp2_with (first
        | (refine wpList_buildTo rfl 79 _ rfl _ rfl (wcs (at_, z64)).toArray (by simp only [List.map_toArray, List.map_cons, List.map_nil]; exact wr_built at_) ?_)
        | (refine wpList_allocN13 rfl 79 rfl _ wr_zero ?_; rw [← WA.out])
        | (refine wpList_stRow13 rfl 79 (.tmp 8) (.tmp 22) rfl w1.heap.size (wcs (at_, z64)).toArray rfl rfl 79 _ XA.out (by rw [List.size_toArray, LWH.out _ _ LZ.out]; exact wr_info) (by rw [List.size_toArray, List.size_toArray, LWH.out _ _ LZ.out, LWH.out _ _ LZ.out]) (fun u hu => wcs_one _ u (by simpa using hu)) ?_; intro wb rb ob bb zb; have RB := Lib.hid rb; have BB := Lib.hid (bb _ _ BA.out (Nat.le_refl _)); clear rb ob bb zb)
        | (refine wpList_copy_splice rfl (.tmp 24) (.tmp 25) 33 33 rfl 5 Tryd.underlying33 (by kernel_rfl) (some ⟨w1.heap.size, 1, none⟩) A 64 64 64 c rfl rfl w1.heap.size 1 (wcs (at_, z64)) 79 RB.out (b.map bv) (by rw [LB.out]; rfl) (fun _ => ⟨rfl, (HRB.out.below BB.out).src13 (by decide)⟩) (by rw [LB.out, LWH.out _ _ LZ.out]; decide) (bv_one _) w1.heap.size w1 BB.out (Nat.le_refl _) ?_; intro w6 hw6 hb6; have B6 := Lib.hid hb6; have G6 := Lib.hid hw6.out; clear hb6 hw6)
        | fail)
      have g6 := G6.out
      rw [splice_wcs at_ b HAT.out.1] at g6
      obtain ⟨ga2, vw2, s1, s2, s3, s4, s5, s6, s8⟩ := H1.out.1.st
      have hgl : g < w1.heap.size := H1.out.1.lt
      have hcell : w6.cell? ⟨g, 1, none⟩ = some vw2 := (B6.out.cell (p := ⟨g, 1, none⟩) hgl).trans (by simp [World.cell?, s1])
      have HS := Lib.hid (And.intro s1 (And.intro s2 (And.intro s3 (And.intro s4 (And.intro s5 (And.intro s6 s8))))))
      have HGL := Lib.hid hgl
      have G7 := Lib.hid g6
      have HB1 : Hid (B ≤ w1.heap.size) := Nat.le_of_lt (Nat.lt_of_le_of_lt H1.out.1.le hgl)
      obtain ⟨gx, hgx⟩ : ∃ gx, gx = w1.heap.size := ⟨_, rfl⟩
      have HGX := Lib.hid hgx
      rw [← hgx] at g6 G7 ⊢
      have WL : Hid ((wcs (at_, b)).length = 65) := LWH.out _ _ HAT.out.1
      clear s1 s2 s3 s4 s5 s6 s8 hgl G6 RB BB XA BA hgx LB
      refine AnyE.begin (S := fun W => W.cell? ⟨g, 1, none⟩ = some vw2 ∧ W.heap[gx]? = some (.cells (wcs (at_, b)).toArray 79 (0, 0))) (z := 10) (by kernel_rfl) ?_
      have hHeld : w6.drew.cell? ⟨g, 1, none⟩ = some vw2 ∧ w6.drew.heap[gx]? = some (.cells (wcs (at_, b)).toArray 79 (0, 0)) := ⟨hcell, g6⟩
      refine takeE (i := 0) (v := ?v0_1) rfl (by decide) (by kernel_rfl) (by kernel_rfl) (by kernel_rfl) (by kernel_rfl) (fun _ _ _ h => h) (by rfl) ?hy0_1 (by assumption) ?rest0_1
      case hy0_1 => (intro W hSw; have q1 := hSw.1; go_simp; try with_reducible rfl)
      try simp only [Act.put]
      try simp only [List.setIfInBounds_toArray]
      try simp only [List.set_cons_succ]
      try simp only [List.set_cons_zero]
      refine takeE (i := 1) (v := ?v1_2) rfl (by decide) (by kernel_rfl) (by kernel_rfl) (by kernel_rfl) (by kernel_rfl) (fun _ _ _ h => h) (by rfl) ?hy1_2 (by assumption) ?rest1_2
      case hy1_2 => (intro W hSw; have q1 := hSw.1; go_simp; try with_reducible rfl)
      try simp only [Act.put]
      try simp only [List.setIfInBounds_toArray]
      try simp only [List.set_cons_succ]
      try simp only [List.set_cons_zero]
      refine takeE (i := 2) (v := ?v2_3) rfl (by decide) (by kernel_rfl) (by kernel_rfl) (by kernel_rfl) (by kernel_rfl) (fun _ _ _ h => h) (by rfl) ?hy2_3 (by assumption) ?rest2_3
      case hy2_3 => (intro W hSw; have q1 := hSw.1; go_simp; try with_reducible rfl)
      try simp only [Act.put]
      try simp only [List.setIfInBounds_toArray]
      try simp only [List.set_cons_succ]
      try simp only [List.set_cons_zero]
      refine takeE (i := 3) (v := ?v3_4) rfl (by decide) (by kernel_rfl) (by kernel_rfl) (by kernel_rfl) (by kernel_rfl) (fun _ _ _ h => h) (by rfl) ?hy3_4 (by assumption) ?rest3_4
      case hy3_4 => (intro W hSw; have q1 := hSw.1; go_simp; try with_reducible rfl)
      try simp only [Act.put]
      try simp only [List.setIfInBounds_toArray]
      try simp only [List.set_cons_succ]
      try simp only [List.set_cons_zero]
      refine takeE (i := 4) (v := ?v4_5) rfl (by decide) (by kernel_rfl) (by kernel_rfl) (by kernel_rfl) (by kernel_rfl) (fun _ _ _ h => h) (by rfl) ?hy4_5 (by assumption) ?rest4_5
      case hy4_5 => (intro W hSw; have q1 := hSw.1; go_simp; try with_reducible rfl)
      try simp only [Act.put]
      try simp only [List.setIfInBounds_toArray]
      try simp only [List.set_cons_succ]
      try simp only [List.set_cons_zero]
      refine takeE (i := 5) (v := .agg (wcs (at_, b)).toArray) rfl (by decide) (by kernel_rfl) (by kernel_rfl) (by kernel_rfl) (by kernel_rfl) (fun _ _ _ h => h) (by rfl) ?hy5_6 (by assumption) ?rest5_6
      case hy5_6 => (intro W hSw; exact exec_ldN rfl rfl (run_loadVar_row W gx 79 79 _ (0, 0) _ hSw.2 Tryd.underlying79 rfl (by rw [List.size_toArray, WL.out]; exact wr_info)))
      try simp only [Act.put]
      try simp only [List.setIfInBounds_toArray]
      try simp only [List.set_cons_succ]
      try simp only [List.set_cons_zero]
      have BT : Hid (Below gx w1 w6.drew) := by show Below _ _ _; rw [HGX.out]; exact B6.out.drew
      have CG := Lib.hid hHeld
      clear hHeld hcell g6
      obtain ⟨wc, hwc⟩ : ∃ wc, wc = w6.drew := ⟨_, rfl⟩
      rw [← hwc] at BT CG
      rw [← hwc]
      clear hwc
      refine AnyE.ready (rs := [6]) (by kernel_rfl) (by simp) ?_
      refine ReadyE.cons rfl (fun K hK => ?_) ReadyE.nil
      refine step_bs13 (by rfl) 80 79 (.tmp 32) (by rfl) (wcs (at_, b)).toArray (by rfl) 65 (by rw [List.size_toArray, WL.out]) (by decide) (by decide) Tryd.underlying80 (.agg (wcs (0, z64)).toArray) (by kernel_rfl) rfl ?_
      have XC : Hid (∀ j u, (wcs (at_, b))[j]? = some u → (wc.alloc (.cells (wcs (at_, b)).toArray 79)).cell? ((⟨wc.heap.size, 0, none⟩ : Addr).add j) = some u) := fun j u hu => (RowAt.made wc (wcs (at_, b)).toArray 79).2 j u (by simpa using hu)
      have hlx : gx < wc.heap.size := (Array.getElem?_eq_some_iff.1 CG.out.2).1
      have CG2 : Hid ((wc.alloc (.cells (wcs (at_, b)).toArray 79)).cell? ⟨g, 1, none⟩ = some vw2 ∧ (wc.alloc (.cells (wcs (at_, b)).toArray 79)).heap[gx]? = some (.cells (wcs (at_, b)).toArray 79 (0, 0))) := ⟨(((Below.refl _ _).alloc (Nat.le_refl _) _).cell (p := ⟨g, 1, none⟩) (World.block_lt_of_cell? wc ⟨g, 1, none⟩ CG.out.1)).trans CG.out.1, (Below.heap_alloc _ _ _ hlx).trans CG.out.2⟩
      have BT2 : Hid (Below gx w1 (wc.alloc (.cells (wcs (at_, b)).toArray 79))) := BT.out.alloc (by rw [HGX.out]; exact HGX.out ▸ BT.out.size) _
      refine hK.out _ _ CG2.out (fun hHeld => ?_)
      try simp only [Act.put]
      try simp only [List.setIfInBounds_toArray]
      try simp only [List.set_cons_succ]
      try simp only [List.set_cons_zero]
      clear hK K hHeld
      generalize wc.alloc (.cells (wcs (at_, b)).toArray 79) = wx at *
      generalize wc.heap.size = g0 at *
      clear BT CG hlx wc
      have OW : Hid (wx.ownsRow B 79 65 vw2 D.waits.length (rowW D.waits)) := by
        have h6 := HS.out.2.2.2.2.2.1
        rw [Cd.fp_waits] at h6
        exact owns_same h6 (fun k e => BT2.out.block k (by rw [HGX.out]; exact (World.ownsRow.lt h6 k e).2))
      refine AnyE.ready (rs := [7]) (by kernel_rfl) (by simp) ?_
      refine ReadyE.cons rfl (fun K hK => ?_) ReadyE.nil
      refine step_ownN13 (by rfl) (.tmp 31) (.tmp 33) 80 (by rfl) B 79 (.agg (wcs (0, z64)).toArray) 65 72 Tryd.underlying80 wr_all rfl (by decide) _ D.waits.length (rowW D.waits) (by rfl) OW.out ⟨g0, 0, none⟩ 1 (wcs (at_, b)) (by rfl) WL.out XC.out (wcs_one _) (by have := HWS.out; omega) (by have := HWS.out; omega) (by have h1 := HB1.out; have h2 := BT2.out.size; omega) ?_
      intro v3 wy ho hg hat
      have hgx2 : wx.cell? ⟨g, 1, none⟩ = some vw2 := CG2.out.1
      have hne : vw2.ownBlock ≠ some g := fun e => (HS.out.2.2.2.2.2.2 g e).2.1 rfl
      have hnx : vw2.ownBlock ≠ some gx := fun e => by have := (H1.out.1.fit gx (HS.out.2.2.2.2.2.2 gx e).1).2; have := HGX.out; omega
      have CG : Hid (wy.cell? ⟨g, 1, none⟩ = some vw2 ∧ wy.heap[gx]? = some (.cells (wcs (at_, b)).toArray 79 (0, 0))) := ⟨(hg.cell_far ⟨g, 1, none⟩ (World.block_lt_of_cell? wx ⟨g, 1, none⟩ CG2.out.1) (fun e => hne e.symm)).trans CG2.out.1, (hg.block gx (Array.getElem?_eq_some_iff.1 CG2.out.2).1 (fun e => hnx e.symm)).trans CG2.out.2⟩
      obtain ⟨AW, cW, rfl, -⟩ := len_of_own' ho
      have HFIN : Hid (CDk (wy.setCell ⟨g, 1, none⟩ (.slice AW (D.waits.length + 1) cW)) (fun k => F k ∨ (w1.heap.size ≤ k ∧ k < wy.heap.size)) B g { D.fp with waits := D.waits ++ [(at_, b)] } ∧ Fr F w1 (wy.setCell ⟨g, 1, none⟩ (.slice AW (D.waits.length + 1) cW))) := by
        have h := CDk.wrote (i := at_) H1.out.1 HS.out.1 HS.out.2.1 HS.out.2.2.1 HS.out.2.2.2.1 HS.out.2.2.2.2.1 HS.out.2.2.2.2.2.2 HB1.out (wx := wx) (HGX.out ▸ BT2.out) HAT.out.1 (hin := HAT.out.2) (by rw [Cd.fp_waits]; exact ho) hg hat
        rw [Cd.fp_waits] at h
        exact h
      have f1 : wy.frozen? ⟨g, 1, none⟩ = false := by
        have hh := (hg.block g (World.block_lt_of_cell? wx ⟨g, 1, none⟩ CG2.out.1) (fun e => hne e.symm)).trans ((BT2.out.block g (by rw [HGX.out]; exact HGL.out)).trans HS.out.1)
        simp [World.frozen?, hh]
      have HF1 := Lib.hid f1
      show K (Act.put _ (some 34) (.slice AW (D.waits.length + 1) cW)) wy
      clear ho hg hat OW BT2 CG2 XC f1 hgx2 hne hnx
      refine hK.out _ _ CG.out (fun hHeld => ?_)
      try simp only [Act.put]
      try simp only [List.setIfInBounds_toArray]
      try simp only [List.set_cons_succ]
      try simp only [List.set_cons_zero]
      clear hK K hHeld
      refine AnyE.ready (rs := [8]) (by kernel_rfl) (by simp) ?_
      refine ReadyE.cons rfl (fun K hK => ?_) ReadyE.nil
      rw [if_pos (by rfl)]
      go_simp
      refine hK.out _ _ CG.out (fun hHeld => ?_)
      try simp only [Act.put]
      try simp only [List.setIfInBounds_toArray]
      try simp only [List.set_cons_succ]
      try simp only [List.set_cons_zero]
      clear hK K hHeld
      refine AnyE.ready (rs := [9]) (by kernel_rfl) (by simp) ?_
      refine ReadyE.cons rfl (fun K hK => ?_) ReadyE.nil
      rw [if_pos (by rfl)]
      go_simp
      refine hK.out _ _ CG.out (fun hHeld => ?_)
      try simp only [Act.put]
      try simp only [List.setIfInBounds_toArray]
      try simp only [List.set_cons_succ]
      try simp only [List.set_cons_zero]
      clear hK K hHeld
      refine AnyE.ready (rs := [10]) (by kernel_rfl) (by simp) ?_
      refine ReadyE.last rfl (fun K hK => ?_)
      have y0 := CG.out.1
      have f0 := HF1.out
      rw [if_pos (by rfl)]
      go_simp
      refine hK.out _ _ ?_
      try simp only [Act.put]
      try simp only [List.setIfInBounds_toArray]
      try simp only [List.set_cons_succ]
      try simp only [List.set_cons_zero]
      clear hK K y0 f0
      refine AnyE.done (by kernel_rfl) ?_ _
      go_wp2_with fail
      go_ret
      exact (show CWriteR _ _ _ _ _ _ _ from ⟨_, HFIN.out.1, rfl, H1.out.2.trans HFIN.out.2 (Grew.refl w F), fun k hk => hk.imp id fun e => Nat.le_trans H1.out.2.size e.1⟩)
end Go.Proofs.YtahgaogmcffglaaDoor
