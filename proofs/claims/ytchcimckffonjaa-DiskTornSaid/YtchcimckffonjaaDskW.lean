/- The statement's own disk: Write. -/
import Derived.Test.YtchcimckffonjaaDskR
import Derived.Test.YtchcimckffonjaaBbG
import Derived.Test.YtchcimckffonjaaRfA
namespace Go.Proofs.Ytchcimckffonjaa
open Go.RowKit

/-- What a write makes of a disk, and what it answers. -/
def Dk.write (D : Dk) (at_ : Int) (b : List UInt8) : Dk × Int :=
  if D.dead = true then (D, 131) else if at_ < 0 ∨ (D.secs.length : Int) ≤ at_ then (D, 130) else if b.length ≠ 64 then (D, 2) else if D.goes = true then (D.went, 131)
  else ({ D.went with waits := D.waits ++ [(at_.toNat, b)] }, 0)
def WriteR (w : World) (F : Nat → Prop) (B g : Nat) (r : Dk × Int) (e : Ending) (w' : World) : Prop := ∃ F', RDk w' F' B g r.1 ∧ e = .returned (.int .i64 r.2) ∧ Fr F w w' ∧ Grew w F F'

theorem step_appB13 {P : Program} {w : World} {ops : Array Oper} {o : Oper} {a : Act} {K : Act → World → Prop} {Q : Exit → Act → World → Prop} {E : Prop} (hgd : o.guard = none) (s x : Operand) (t : TypeId)
    (ho : o.op = .call { callee := .builtin .append, args := #[s, x], argTypes := #[t, t] })
    (base : Nat) (e : TypeId) (ht : P.underlying t = some (.slice e)) (hinfo : (P.info? e).map (fun i => (i.zero, i.size, i.bytes)) = some (some (.int .u8 0), 1, 1))
    (v : Value) (l : List UInt8) (hs : a.eval s = v) (hown : Ob w base e v l) (B : Nat) (A : Option Addr) (m c : Nat) (news : List UInt8) (hx : a.eval x = .slice A m c) (hr : Rd w B A m news)
    (hbound : l.length + m ≤ 140737488355328) (hbase : base ≤ w.heap.size)
    (h : ∀ v' w', Ob w' base e v' (l ++ news) → Below base w w' → K (a.put o.dst v') w') : if Region.wanted o (yielded ops a.tmps) = true then Oper.wp P o a w K Q else E := by
  have hw : Region.wanted o (yielded ops a.tmps) = true := by simp [Region.wanted, hgd]
  rw [if_pos hw]
  obtain ⟨v', w', hrun, h2, h3, h4⟩ := run_app (P := P) w base t o.type e ht hinfo v l hown B A m c news hr hbound hbase
  unfold Oper.wp execOp
  simp only [ho, resolve, invoke, builtin, Sem.run_bind, Sem.run_pure, Result.andThen_ok, List.map_toArray, List.map_cons, List.map_nil, hs, hx, hrun]
  exact h v' w' h2 ⟨h3.os, h3.tape, h3.output, h3.size, fun k hk => h3.block k (by omega) (fun e => by have := (World.ownsRow.lt hown k e.symm).1; omega)⟩
/-- append of one thing of several cells onto a row of one's own. -/
theorem step_own13 {P : Program} {w : World} {ops : Array Oper} {o : Oper} {a : Act} {K : Act → World → Prop} {Q : Exit → Act → World → Prop} {E : Prop} (hgd : o.guard = none) (s x : Operand) (t : TypeId)
    (ho : o.op = .call { callee := .builtin .append, args := #[s, x], argTypes := #[t, t] })
    (base : Nat) (e : TypeId) (z : Value) (size bytes : Nat) (ht : P.underlying t = some (.slice e)) (hinfo : (P.info? e).map (fun i => (i.zero, i.size, i.bytes)) = some (some z, size, bytes)) (hz1 : z.cells.size = size) (hsz : 0 < size)
    (v : Value) (n : Nat) (xs : List Value) (hs : a.eval s = v) (hown : w.ownsRow base e size v n xs) (ad : Addr) (c : Nat) (news : List Value) (hx : a.eval x = .slice (some ad) 1 c) (hl : news.length = size) (hnews : ∀ j u, news[j]? = some u → w.cell? (ad.add j) = some u) (h1 : ∀ u ∈ news, u.oneCell' = true)
    (hlen : n + 1 ≤ 2000000) (hbytes : (n + 1) * bytes ≤ 140737488355328) (hbase : base ≤ w.heap.size)
    (h : ∀ v' w', w'.ownsRow base e size v' (n + 1) (xs ++ news) → w.grownBy w' v.ownBlock → (v'.ownBlock = v.ownBlock ∨ v'.ownBlock = some w.heap.size) → K (a.put o.dst v') w') : if Region.wanted o (yielded ops a.tmps) = true then Oper.wp P o a w K Q else E := by
  have hw : Region.wanted o (yielded ops a.tmps) = true := by simp [Region.wanted, hgd]
  rw [if_pos hw]
  obtain ⟨i, hi, hzz⟩ := Option.map_eq_some_iff.1 hinfo
  simp only [Prod.mk.injEq] at hzz
  obtain ⟨hi0, hi1, hi2⟩ := hzz
  obtain ⟨v', w', hrun, h2, h3, -, h5⟩ := run_append_own_at (P := P) w base t o.type e i z size bytes ht hi hi0 hi1 hi2 hz1 hsz v n xs hown ad 1 c news (by omega) hnews h1 (by unfold maxLen; omega) hbytes hbase
  unfold Oper.wp execOp
  simp only [ho, resolve, invoke, builtin, Sem.run_bind, Sem.run_pure, Result.andThen_ok, List.map_toArray, List.map_cons, List.map_nil, hs, hx, hrun]
  exact h v' w' h2 h3 h5
theorem WtsC.snoc {w : World} {F : Nat → Prop} {B : Nat} {x : Nat × List UInt8} {c0 c1 : Value} : ∀ {xs : List (Nat × List UInt8)} {cs : List Value}, WtsC w F B xs cs → WtC w F B x c0 c1 → WtsC w F B (xs ++ [x]) (cs ++ [c0, c1])
  | [], [], _, h => ⟨h, trivial⟩
  | _ :: _, _ :: _ :: _, h, hx => ⟨h.1, WtsC.snoc h.2 hx⟩
  | [], _ :: _, h, _ => h.elim
  | _ :: _, [], h, _ => h.elim
  | _ :: _, [_], h, _ => h.elim
/-- One write more that waits. -/
theorem RDk.wrote {w1 wx wy : World} {F : Nat → Prop} {B g ga : Nat} {D : Dk} {vw vw' v2 : Value} {cs : List Value} {b : List UInt8} (h : RDk w1 F B g D)
    (h1 : w1.heap[g]? = some (.cells #[.slice (some ⟨ga, 0, none⟩) (D.secs.length * 64) (D.secs.length * 64), vw, .bool D.dead, .bool D.armed, .int .i64 D.left] 68 (0, 0)))
    (h2 : w1.heap[ga]? = some (.cells (D.secs.flatten.map fun x => Value.int .u8 (x.toNat : Int)).toArray 5 (0, 0))) (h3 : F ga) (h4 : B ≤ ga) (h5 : ga ≠ g)
    (h7 : WtsC w1 (fun k => F k ∧ k ≠ g ∧ k ≠ ga ∧ vw.ownBlock ≠ some k) B D.waits cs) (h8 : ∀ b, vw.ownBlock = some b → F b ∧ b ≠ g ∧ b ≠ ga)
    (hBs : B ≤ w1.heap.size) (hbx : Below w1.heap.size w1 wx) (ho : Ob wx w1.heap.size 5 v2 b) (hbl : b.length = 64) (i : Nat) (hin : i < D.secs.length)
    (hown : wy.ownsRow B 70 2 vw' (D.waits.length + 1) (cs ++ [.int .i64 (i : Int), v2])) (hg : wx.grownBy wy vw.ownBlock) (hat : vw'.ownBlock = vw.ownBlock ∨ vw'.ownBlock = some wx.heap.size) :
    RDk (wy.setCell ⟨g, 1, none⟩ vw') (fun k => F k ∨ (w1.heap.size ≤ k ∧ k < wy.heap.size)) B g { D with waits := D.waits ++ [(i, b)] } ∧ Fr F w1 (wy.setCell ⟨g, 1, none⟩ vw') := by
  have hgl := (h.fit g h.fg).2
  have keep : ∀ k, F k → vw.ownBlock ≠ some k → wy.heap[k]? = w1.heap[k]? := fun k hk hne => (hg.block k (Nat.lt_of_lt_of_le (h.fit k hk).2 hbx.size) (fun e => hne e.symm)).trans (hbx.block k (h.fit k hk).2)
  have hvg : vw.ownBlock ≠ some g := fun e => (h8 g e).2.1 rfl
  have hva : vw.ownBlock ≠ some ga := fun e => (h8 ga e).2.2 rfl
  have hnew : ∀ k, vw'.ownBlock = some k → (vw.ownBlock = some k ∨ k = wx.heap.size) := fun k e => by
    rcases hat with h | h
    · exact .inl (h ▸ e)
    · right; rw [h] at e; injection e with e; exact e.symm
  have hsy := hg.size
  have hsx := hbx.size
  have hF : Fr F w1 (wy.setCell ⟨g, 1, none⟩ vw') := ((Fr.of_below hbx).grown hg (fun j e => .inl (h8 j e).1)).setCell (p := ⟨g, 1, none⟩) (.inl h.fg) _
  have row : ∀ k, k ≠ g → (wy.setCell ⟨g, 1, none⟩ vw').heap[k]? = wy.heap[k]? := fun k hk => Below.heap_setCell _ _ _ _ hk
  have hownlt : ∀ k, vw'.ownBlock = some k → k < wy.heap.size := fun k e => (World.ownsRow.lt hown k e).2
  refine ⟨⟨h.le, .inl h.fg, h.wide, h.few, fun x hx => by
    rcases List.mem_append.1 hx with hx | hx
    · exact h.inn x hx
    · rw [List.mem_singleton] at hx; subst hx; exact hin, fun k hk => ?_, ga, vw', cs ++ [.int .i64 (i : Int), v2], ?_, ?_, .inl h3, h4, h5, ?_, ?_, fun k e => ?_⟩, hF⟩
  · rw [World.size_setCell]
    rcases hk with hk | hk
    · exact ⟨(h.fit k hk).1, by have := (h.fit k hk).2; omega⟩
    · exact ⟨by omega, hk.2⟩
  · have := row_setC ((keep g h.fg hvg).trans h1) 1 vw'
    simpa using this
  · exact (row ga h5).trans ((keep ga h3 hva).trans h2)
  · show (wy.setCell ⟨g, 1, none⟩ vw').ownsRow B 70 2 vw' (D.waits ++ [(i, b)]).length _
    rw [show (D.waits ++ [(i, b)]).length = D.waits.length + 1 by simp]
    refine ⟨hown.1, ?_⟩
    rcases hown.2 with hn | ⟨k, cap, cur, rfl, hb, hh, rest⟩
    · exact .inl hn
    · refine .inr ⟨k, cap, cur, rfl, hb, (row k ?_).trans hh, rest⟩
      rintro rfl
      rcases hnew k rfl with e | e
      · exact hvg e
      · omega
  · refine WtsC.snoc (h7.same (fun k hk => (row k hk.2.1).trans (keep k hk.1 hk.2.2.2)) (fun k hk => ⟨.inl hk.1, hk.2.1, hk.2.2.1, fun e => ?_⟩)) ⟨rfl, ?_, hbl, fun k e => ?_⟩
    · rcases hnew k e with e | e
      · exact hk.2.2.2 e
      · have := (h.fit k hk.1).2; omega
    · have hw : ∀ k, v2.ownBlock = some k → (wy.setCell ⟨g, 1, none⟩ vw').heap[k]? = wx.heap[k]? := fun k e => by
        have hk := World.ownsRow.lt ho k e
        exact (row k (by omega)).trans (hg.block k hk.2 (fun e2 => by have := (h.fit k (h8 k e2.symm).1).2; omega))
      have := Ob.same (B := w1.heap.size) ho hw
      refine ⟨this.1, ?_⟩
      rcases this.2 with hn | ⟨k, cap, cur, rfl, hb, hh, rest⟩
      · exact .inl hn
      · exact .inr ⟨k, cap, cur, rfl, Nat.le_trans hBs hb, hh, rest⟩
    · have hk := World.ownsRow.lt ho k e
      refine ⟨.inr ⟨hk.1, by omega⟩, by omega, by have := (h.fit ga h3).2; omega, fun e2 => ?_⟩
      rcases hnew k e2 with e3 | e3
      · have := (h.fit k (h8 k e3).1).2; omega
      · omega
  · rcases hnew k e with e3 | e3
    · exact ⟨.inl (h8 k e3).1, (h8 k e3).2⟩
    · refine ⟨.inr ⟨by omega, hownlt k e⟩, by omega, by have := (h.fit ga h3).2; omega⟩

set_option maxRecDepth 100000 in
set_option maxHeartbeats 4000000 in
theorem rwriteD_any (w : World) {F : Nat → Prop} {B g B0 n c : Nat} {D : Dk} {A : Option Addr} {b : List UInt8} (at_ : Int) (h : RDk w F B g D) (hr : Rd w B0 A n b) (hB0 : B0 ≤ w.heap.size) (hnf : ∀ ad, A = some ad → ¬ F ad.block) (hws : D.waits.length ≤ 1000000) :
    Calls Try.prog 16 #[.pointer (some ⟨g, 0, none⟩), .int .i64 at_, .slice A n c] w (WriteR w F B g (D.write at_ b)) := by
  obtain ⟨ga, vw, ⟨c0, c1, c2, c3, c4⟩, hf⟩ := h.cells
  have H := Lib.hid h
  have HR := Lib.hid (And.intro hr hB0)
  have HNF := Lib.hid hnf
  have HWS := Lib.hid hws
  clear hnf hws
  have hbl : b.length = n := hr.1
  cases hd : D.dead with
  | true =>
    have HG : Hid (D.write at_ b = (D, 131)) := by show _ = _; simp [Dk.write, hd]
    rw [HG.out]
    rw [hd] at c2
    clear hd c0 c1 c3 c4 hf h hr hB0 hbl
    go_enter Try.func16, Try.ntmps16
    go_wp2_with fail
    go_ret
    exact (show WriteR _ _ _ _ _ _ _ from ⟨F, H.out, rfl, Fr.refl F w, Grew.refl w F⟩)
  | false =>
    rw [hd] at c2
    obtain ⟨N, hN⟩ : ∃ N, N = D.secs.length := ⟨_, rfl⟩
    rw [← hN] at c0
    by_cases h0 : at_ < 0
    · have HG : Hid (D.write at_ b = (D, 130)) := by show _ = _; simp [Dk.write, hd, h0]
      rw [HG.out]
      clear hd c0 c1 c3 c4 hf h hr hB0 hbl hN
      go_enter Try.func16, Try.ntmps16
      go_wp2_with fail
      go_ret
      exact (show WriteR _ _ _ _ _ _ _ from ⟨F, H.out, rfl, Fr.refl F w, Grew.refl w F⟩)
    have hdv : ((N * 64 : Nat) : Int) / 64 = (N : Int) := by omega
    have hfew := h.few
    have hwN : wrap64 (N : Int) = (N : Int) := by unfold wrap64; omega
    by_cases h1 : (N : Int) ≤ at_
    · have HG : Hid (D.write at_ b = (D, 130)) := by show _ = _; simp [Dk.write, hd, ← hN, h1]
      have t1 : ¬ at_ < (N : Int) := by omega
      rw [HG.out]
      clear hd c1 c3 c4 hf h hr hB0 hbl hN hfew
      go_enter Try.func16, Try.ntmps16
      go_wp2_with fail
      go_ret
      exact (show WriteR _ _ _ _ _ _ _ from ⟨F, H.out, rfl, Fr.refl F w, Grew.refl w F⟩)
    have t1 : at_ < (N : Int) := by omega
    by_cases h64 : n = 64
    case neg =>
      have HG : Hid (D.write at_ b = (D, 2)) := by show _ = _; rw [Dk.write, if_neg (by simp [hd]), if_neg (by omega), if_pos (by omega)]
      have t2 : ((n : Int) != 64) = true := by simp; omega
      rw [HG.out]
      clear hd c1 c3 c4 hf h hr hB0 hbl hN hfew
      go_enter Try.func16, Try.ntmps16
      go_wp2_with fail
      go_ret
      exact (show WriteR _ _ _ _ _ _ _ from ⟨F, H.out, rfl, Fr.refl F w, Grew.refl w F⟩)
    subst h64
    have C1 := Lib.hid (rgoes_any w H.out)
    cases hg : D.goes with
    | true =>
      have HG : Hid (D.write at_ b = (D.went, 131)) := by show _ = _; rw [Dk.write, if_neg (by simp [hd]), if_neg (by omega), if_neg (by omega), if_pos hg]
      rw [HG.out]
      rw [hg] at C1
      clear hd c1 c3 c4 hf h hr hB0 hbl hN hfew hg
      go_enter Try.func16, Try.ntmps16
      go_wp2_with fail
      refine C1.out.mono ?_
      rintro e w1 ⟨rfl, hr1, hf1⟩
      have H1 := Lib.hid (And.intro hr1 hf1)
      clear hr1 hf1
      go_wp2_with fail
      go_ret
      exact (show WriteR _ _ _ _ _ _ _ from ⟨F, H1.out.1, rfl, H1.out.2, Grew.refl w F⟩)
    | false =>
      have HG : Hid (D.write at_ b = ({ D.went with waits := D.waits ++ [(at_.toNat, b)] }, 0)) := by show _ = _; rw [Dk.write, if_neg (by simp [hd]), if_neg (by omega), if_neg (by omega), if_neg (by simp [hg])]
      rw [HG.out]
      rw [hg] at C1
      have hsw : D.went.secs = D.secs := by unfold Dk.went; split <;> (try split) <;> rfl
      have HAT : Hid (0 ≤ at_ ∧ b.length = 64 ∧ at_.toNat < D.went.secs.length) := ⟨by omega, hbl, by rw [hsw]; omega⟩
      clear hsw
      clear hd c1 c3 c4 hf h hr hB0 hbl hN hfew hg
      go_enter Try.func16, Try.ntmps16
      go_wp2_with fail
      refine C1.out.mono ?_
      rintro e w1 ⟨rfl, hr1, hf1⟩
      have H1 := Lib.hid (And.intro hr1 hf1)
      clear hr1 hf1
      go_wp2_with fail
      -- region
      obtain ⟨ga2, vw2, cs, s1, s2, s3, s4, s5, s6, s7, s8⟩ := H1.out.1.st
      have hcell : w1.cell? ⟨g, 1, none⟩ = some vw2 := by simp [World.cell?, s1]
      have hww : D.went.waits = D.waits := by unfold Dk.went; split <;> (try split) <;> rfl
      have HS := Lib.hid (And.intro s1 (And.intro s2 (And.intro s3 (And.intro s4 (And.intro s5 (And.intro s6 (And.intro s7 s8)))))))
      have HWW := Lib.hid hww
      have hgl : g < w1.heap.size := World.block_lt_of_cell? w1 ⟨g, 1, none⟩ hcell
      have HGL := Lib.hid hgl
      have HB1 : Hid (B ≤ w1.heap.size) := Nat.le_of_lt (Nat.lt_of_le_of_lt H1.out.1.le hgl)
      have HRB : Hid (Rd w1 w1.heap.size A 64 b) := by
        have h2 : ∀ k, k < w.heap.size → ¬ F k → w1.heap[k]? = w.heap[k]? := H1.out.2.block
        refine ⟨HR.out.1.1, fun h0 => ?_⟩
        obtain ⟨k, o2, e2, hk, hc⟩ := HR.out.1.2 h0
        exact ⟨k, o2, e2, Nat.lt_of_lt_of_le (Nat.lt_of_lt_of_le hk HR.out.2) H1.out.2.size, fun i hi => (World.cell?_of_block (w := w) (a := ⟨k, o2 + i, none⟩) (h2 k (Nat.lt_of_lt_of_le hk HR.out.2) (HNF.out _ e2))).trans (hc i hi)⟩
      clear s1 s2 s3 s4 s5 s6 s7 s8 hww hgl
      refine AnyE.begin (S := fun W => W.cell? ⟨g, 1, none⟩ = some vw2) (z := 14) (by kernel_rfl) ?_
      have hHeld : w1.drew.cell? ⟨g, 1, none⟩ = some vw2 := hcell
      refine takeE (i := 0) (v := ?v0_1) rfl (by decide) (by kernel_rfl) (by kernel_rfl) (by kernel_rfl) (by kernel_rfl) (fun _ _ _ h => h) (by rfl) ?hy0_1 (by assumption) ?rest0_1
      case hy0_1 => (intro W hSw; go_simp; try with_reducible rfl)
      try simp only [Act.put]
      try simp only [List.setIfInBounds_toArray]
      try simp only [List.set_cons_succ]
      try simp only [List.set_cons_zero]
      refine takeE (i := 1) (v := ?v1_2) rfl (by decide) (by kernel_rfl) (by kernel_rfl) (by kernel_rfl) (by kernel_rfl) (fun _ _ _ h => h) (by rfl) ?hy1_2 (by assumption) ?rest1_2
      case hy1_2 => (intro W hSw; go_simp; try with_reducible rfl)
      try simp only [Act.put]
      try simp only [List.setIfInBounds_toArray]
      try simp only [List.set_cons_succ]
      try simp only [List.set_cons_zero]
      refine takeE (i := 2) (v := ?v2_3) rfl (by decide) (by kernel_rfl) (by kernel_rfl) (by kernel_rfl) (by kernel_rfl) (fun _ _ _ h => h) (by rfl) ?hy2_3 (by assumption) ?rest2_3
      case hy2_3 => (intro W hSw; go_simp; try with_reducible rfl)
      try simp only [Act.put]
      try simp only [List.setIfInBounds_toArray]
      try simp only [List.set_cons_succ]
      try simp only [List.set_cons_zero]
      refine takeE (i := 3) (v := ?v3_4) rfl (by decide) (by kernel_rfl) (by kernel_rfl) (by kernel_rfl) (by kernel_rfl) (fun _ _ _ h => h) (by rfl) ?hy3_4 (by assumption) ?rest3_4
      case hy3_4 => (intro W hSw; go_simp; try with_reducible rfl)
      try simp only [Act.put]
      try simp only [List.setIfInBounds_toArray]
      try simp only [List.set_cons_succ]
      try simp only [List.set_cons_zero]
      refine takeE (i := 4) (v := ?v4_5) rfl (by decide) (by kernel_rfl) (by kernel_rfl) (by kernel_rfl) (by kernel_rfl) (fun _ _ _ h => h) (by rfl) ?hy4_5 (by assumption) ?rest4_5
      case hy4_5 => (intro W hSw; go_simp; try with_reducible rfl)
      try simp only [Act.put]
      try simp only [List.setIfInBounds_toArray]
      try simp only [List.set_cons_succ]
      try simp only [List.set_cons_zero]
      refine takeE (i := 5) (v := ?v5_6) rfl (by decide) (by kernel_rfl) (by kernel_rfl) (by kernel_rfl) (by kernel_rfl) (fun _ _ _ h => h) (by rfl) ?hy5_6 (by assumption) ?rest5_6
      case hy5_6 => (intro W hSw; go_simp; try with_reducible rfl)
      try simp only [Act.put]
      try simp only [List.setIfInBounds_toArray]
      try simp only [List.set_cons_succ]
      try simp only [List.set_cons_zero]
      refine takeE (i := 7) (v := ?v7_7) rfl (by decide) (by kernel_rfl) (by kernel_rfl) (by kernel_rfl) (by kernel_rfl) (fun _ _ _ h => h) (by rfl) ?hy7_7 (by assumption) ?rest7_7
      case hy7_7 => (intro W hSw; go_simp; try with_reducible rfl)
      try simp only [Act.put]
      try simp only [List.setIfInBounds_toArray]
      try simp only [List.set_cons_succ]
      try simp only [List.set_cons_zero]
      have CG : Hid (w1.drew.cell? ⟨g, 1, none⟩ = some vw2) := hcell
      have BT : Hid (Below w1.heap.size w1 w1.drew) := (Below.refl _ _).drew
      clear hHeld hcell
      obtain ⟨wc, hwc⟩ : ∃ wc, wc = w1.drew := ⟨_, rfl⟩
      rw [← hwc] at BT CG
      rw [← hwc]
      clear hwc
      refine AnyE.ready (rs := [6]) (by kernel_rfl) (by simp) ?_
      refine ReadyE.cons rfl (fun K hK => ?_) ReadyE.nil
      rw [if_pos (by rfl)]
      go_simp
      have OC : Hid (Ob (wc.alloc (.cells #[] 5)) w1.heap.size 5 (.slice (some ⟨wc.heap.size, 0, none⟩) 0 0) []) := Ob.lit wc [] #[] rfl BT.out.size 0 rfl (by decide)
      have CG2 : Hid ((wc.alloc (.cells #[] 5)).cell? ⟨g, 1, none⟩ = some vw2) := (((Below.refl _ _).alloc (Nat.le_refl _) _).cell (p := ⟨g, 1, none⟩) (World.block_lt_of_cell? wc ⟨g, 1, none⟩ CG.out)).trans CG.out
      have BT2 : Hid (Below w1.heap.size w1 (wc.alloc (.cells #[] 5))) := BT.out.alloc BT.out.size _
      refine hK.out _ _ CG2.out (fun hHeld => ?_)
      try simp only [Act.put]
      try simp only [List.setIfInBounds_toArray]
      try simp only [List.set_cons_succ]
      try simp only [List.set_cons_zero]
      clear hK K hHeld
      generalize wc.alloc (.cells #[] 5) = wa at *
      generalize wc.heap.size = g0 at *
      clear BT CG wc
      refine AnyE.ready (rs := [8]) (by kernel_rfl) (by simp) ?_
      refine ReadyE.cons rfl (fun K hK => ?_) ReadyE.nil
      refine step_appB13 (by rfl) (.tmp 38) (.tmp 39) 33 (by rfl) w1.heap.size 5 Try.underlying33 info_u8 _ [] (by rfl) OC.out w1.heap.size A 64 c b (by rfl) (HRB.out.below BT2.out) (by simp) BT2.out.size ?_
      intro v2 wb ho hb
      rw [List.nil_append] at ho
      have CG : Hid (wb.cell? ⟨g, 1, none⟩ = some vw2) := (hb.cell (p := ⟨g, 1, none⟩) HGL.out).trans CG2.out
      have BT : Hid (Below w1.heap.size w1 wb) := BT2.out.trans hb
      obtain ⟨A5, c5, rfl, -, -, -⟩ := ho.rd
      rw [HAT.out.2.1] at ho ⊢
      have O2 := Lib.hid ho
      show K (Act.put _ (some 40) (.slice A5 64 c5)) wb
      clear ho hb OC CG2 BT2
      refine hK.out _ _ CG.out (fun hHeld => ?_)
      try simp only [Act.put]
      try simp only [List.setIfInBounds_toArray]
      try simp only [List.set_cons_succ]
      try simp only [List.set_cons_zero]
      clear hK K hHeld
      have hHeld := CG.out
      refine takeE (i := 9) (v := ?v9_8) rfl (by decide) (by kernel_rfl) (by kernel_rfl) (by kernel_rfl) (by kernel_rfl) (fun _ _ _ h => h) (by rfl) ?hy9_8 (by assumption) ?rest9_8
      case hy9_8 => (intro W hSw; go_simp; try with_reducible rfl)
      try simp only [Act.put]
      try simp only [List.setIfInBounds_toArray]
      try simp only [List.set_cons_succ]
      try simp only [List.set_cons_zero]
      clear hHeld
      refine AnyE.ready (rs := [10]) (by kernel_rfl) (by simp) ?_
      refine ReadyE.cons rfl (fun K hK => ?_) ReadyE.nil
      rw [if_pos (by rfl)]
      go_simp
      have XC : Hid (∀ j u, ([.int .i64 at_, .slice A5 64 c5] : List Value)[j]? = some u → (wb.alloc (.cells #[.int .i64 at_, .slice A5 64 c5] 70)).cell? ((⟨wb.heap.size, 0, none⟩ : Addr).add j) = some u) := (RowAt.made wb #[.int .i64 at_, .slice A5 64 c5] 70).2
      have CG2 : Hid ((wb.alloc (.cells #[.int .i64 at_, .slice A5 64 c5] 70)).cell? ⟨g, 1, none⟩ = some vw2) := (((Below.refl _ _).alloc (Nat.le_refl _) _).cell (p := ⟨g, 1, none⟩) (World.block_lt_of_cell? wb ⟨g, 1, none⟩ CG.out)).trans CG.out
      have BT2 : Hid (Below w1.heap.size w1 (wb.alloc (.cells #[.int .i64 at_, .slice A5 64 c5] 70))) := BT.out.alloc BT.out.size _
      have O3 : Hid (Ob (wb.alloc (.cells #[.int .i64 at_, .slice A5 64 c5] 70)) w1.heap.size 5 (.slice A5 64 c5) b) := O2.out.alloc _
      refine hK.out _ _ CG2.out (fun hHeld => ?_)
      try simp only [Act.put]
      try simp only [List.setIfInBounds_toArray]
      try simp only [List.set_cons_succ]
      try simp only [List.set_cons_zero]
      clear hK K hHeld
      generalize wb.alloc (.cells #[.int .i64 at_, .slice A5 64 c5] 70) = wx at *
      generalize wb.heap.size = gx at *
      clear BT CG O2 wb
      have OW : Hid (wx.ownsRow B 70 2 vw2 D.waits.length cs) := by
        have h6 := HS.out.2.2.2.2.2.1
        have h8 := HS.out.2.2.2.2.2.2.2
        rw [HWW.out] at h6
        refine ⟨h6.1, ?_⟩
        rcases h6.2 with hn | ⟨k, cap, cur, rfl, hb, hh, rest⟩
        · exact .inl hn
        · exact .inr ⟨k, cap, cur, rfl, hb, (BT2.out.block k (Array.getElem?_eq_some_iff.1 hh).1).trans hh, rest⟩
      refine AnyE.ready (rs := [11]) (by kernel_rfl) (by simp) ?_
      refine ReadyE.cons rfl (fun K hK => ?_) ReadyE.nil
      refine step_own13 (by rfl) (.tmp 36) (.tmp 42) 66 (by rfl) B 70 (.agg #[.int .i64 0, .slice none 0 0]) 2 32 Try.underlying66 (by kernel_rfl) rfl (by decide) _ D.waits.length cs (by rfl) OW.out ⟨gx, 0, none⟩ 1 [.int .i64 at_, .slice A5 64 c5] (by rfl) rfl XC.out (by intro u hu; simp at hu; rcases hu with rfl | rfl <;> rfl) (by have := HWS.out; omega) (by have := HWS.out; omega) (Nat.le_trans HB1.out BT2.out.size) ?_
      intro v3 wy ho hg hat
      have CG : Hid (wy.cell? ⟨g, 1, none⟩ = some vw2) := (hg.cell_far ⟨g, 1, none⟩ (World.block_lt_of_cell? wx ⟨g, 1, none⟩ CG2.out) (fun e => (HS.out.2.2.2.2.2.2.2 g e.symm).2.1 rfl)).trans CG2.out
      obtain ⟨AW, cW, rfl, -⟩ := len_of_own ho
      have HFIN : Hid (RDk (wy.setCell ⟨g, 1, none⟩ (.slice AW (D.waits.length + 1) cW)) (fun k => F k ∨ (w1.heap.size ≤ k ∧ k < wy.heap.size)) B g { D.went with waits := D.waits ++ [(at_.toNat, b)] } ∧ Fr F w1 (wy.setCell ⟨g, 1, none⟩ (.slice AW (D.waits.length + 1) cW))) := by
        have e1 : at_ = ((at_.toNat : Nat) : Int) := by have := HAT.out.1; omega
        have h := RDk.wrote (i := at_.toNat) H1.out.1 HS.out.1 HS.out.2.1 HS.out.2.2.1 HS.out.2.2.2.1 HS.out.2.2.2.2.1 HS.out.2.2.2.2.2.2.1 HS.out.2.2.2.2.2.2.2 HB1.out BT2.out O3.out HAT.out.2.1 (hin := HAT.out.2.2) (by rw [HWW.out, ← e1]; exact ho) hg hat
        rw [HWW.out] at h
        exact h
      have f1 : wy.frozen? ⟨g, 1, none⟩ = false := by
        have hh := (hg.block g (World.block_lt_of_cell? wx ⟨g, 1, none⟩ CG2.out) (fun e => (HS.out.2.2.2.2.2.2.2 g e.symm).2.1 rfl)).trans ((BT2.out.block g HGL.out).trans HS.out.1)
        simp [World.frozen?, hh]
      have HF1 := Lib.hid f1
      show K (Act.put _ (some 43) (.slice AW (D.waits.length + 1) cW)) wy
      clear ho hg hat OW O3 BT2 CG2 XC f1
      refine hK.out _ _ CG.out (fun hHeld => ?_)
      try simp only [Act.put]
      try simp only [List.setIfInBounds_toArray]
      try simp only [List.set_cons_succ]
      try simp only [List.set_cons_zero]
      clear hK K hHeld
      refine AnyE.ready (rs := [12]) (by kernel_rfl) (by simp) ?_
      refine ReadyE.cons rfl (fun K hK => ?_) ReadyE.nil
      rw [if_pos (by rfl)]
      go_simp
      refine hK.out _ _ CG.out (fun hHeld => ?_)
      try simp only [Act.put]
      try simp only [List.setIfInBounds_toArray]
      try simp only [List.set_cons_succ]
      try simp only [List.set_cons_zero]
      clear hK K hHeld
      refine AnyE.ready (rs := [13]) (by kernel_rfl) (by simp) ?_
      refine ReadyE.cons rfl (fun K hK => ?_) ReadyE.nil
      rw [if_pos (by rfl)]
      go_simp
      refine hK.out _ _ CG.out (fun hHeld => ?_)
      try simp only [Act.put]
      try simp only [List.setIfInBounds_toArray]
      try simp only [List.set_cons_succ]
      try simp only [List.set_cons_zero]
      clear hK K hHeld
      refine AnyE.ready (rs := [14]) (by kernel_rfl) (by simp) ?_
      refine ReadyE.last rfl (fun K hK => ?_)
      have y0 := CG.out
      have f0 := HF1.out
      rw [if_pos (by rfl)]
      go_simp
      refine hK.out _ _ ?_
      try simp only [Act.put]
      try simp only [List.setIfInBounds_toArray]
      try simp only [List.set_cons_succ]
      try simp only [List.set_cons_zero]
      clear hK K y0 f0
      refine AnyE.done (by kernel_rfl) ?_ _
      go_wp2_with fail
      go_ret
      exact (show WriteR _ _ _ _ _ _ _ from ⟨_, HFIN.out.1, rfl, H1.out.2.trans HFIN.out.2 (Grew.refl w F), fun k hk => hk.imp id fun e => Nat.le_trans H1.out.2.size e.1⟩)
      -- end of region
end Go.Proofs.Ytchcimckffonjaa
