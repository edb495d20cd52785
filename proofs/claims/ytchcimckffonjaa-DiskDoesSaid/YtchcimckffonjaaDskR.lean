/- The statement's own disk: how it lies in memory; its small calls. -/
import Derived.Test.YtchcimckffonjaaDskS
import Derived.Test.YtchcimckffonjaaDskF
namespace Go.Proofs.Ytchcimckffonjaa
open Go.RowKit

theorem row_setC {w : World} {g : Nat} {cs : Array Value} {t : TypeId} (h : w.heap[g]? = some (.cells cs t (0, 0))) (j : Nat) (u : Value) : (w.setCell ⟨g, j, none⟩ u).heap[g]? = some (.cells (cs.setIfInBounds j u) t (0, 0)) := by
  simp [World.setCell, Array.getElem?_modify, h]
/-- A write that waits, in two cells: where, and bytes of its own. -/
def WtC (w : World) (F : Nat → Prop) (B : Nat) (x : Nat × List UInt8) (c0 c1 : Value) : Prop := c0 = .int .i64 (x.1 : Int) ∧ Ob w B 5 c1 x.2 ∧ x.2.length = 64 ∧ (∀ b, c1.ownBlock = some b → F b)
/-- Cells of writes that wait. -/
def WtsC (w : World) (F : Nat → Prop) (B : Nat) : List (Nat × List UInt8) → List Value → Prop
  | [], [] => True
  | x :: xs, c0 :: c1 :: cs => WtC w F B x c0 c1 ∧ WtsC w F B xs cs
  | _, _ => False
/-- Block g is a disk that stands as D says; what it lies in is of F, the bytes in ga, the writes that wait in gw's row. -/
structure RDk (w : World) (F : Nat → Prop) (B g : Nat) (D : Dk) : Prop where
  le : B ≤ g
  fg : F g
  wide : ∀ s ∈ D.secs, s.length = 64
  few : D.secs.length ≤ 65536
  inn : ∀ x ∈ D.waits, x.1 < D.secs.length
  fit : ∀ k, F k → B ≤ k ∧ k < w.heap.size
  st : ∃ (ga : Nat) (vw : Value) (cs : List Value), w.heap[g]? = some (.cells #[.slice (some ⟨ga, 0, none⟩) (D.secs.length * 64) (D.secs.length * 64), vw, .bool D.dead, .bool D.armed, .int .i64 D.left] 68 (0, 0)) ∧
    w.heap[ga]? = some (.cells (D.secs.flatten.map fun x => Value.int .u8 (x.toNat : Int)).toArray 5 (0, 0)) ∧ F ga ∧ B ≤ ga ∧ ga ≠ g ∧
    w.ownsRow B 70 2 vw D.waits.length cs ∧ WtsC w (fun k => F k ∧ k ≠ g ∧ k ≠ ga ∧ vw.ownBlock ≠ some k) B D.waits cs ∧ ∀ b, vw.ownBlock = some b → F b ∧ b ≠ g ∧ b ≠ ga
section
variable {w w' : World} {F F' : Nat → Prop} {B g : Nat} {D : Dk}
theorem Ob.same {v : Value} {l : List UInt8} (h : Ob w B 5 v l) (hF : ∀ b, v.ownBlock = some b → w'.heap[b]? = w.heap[b]?) : Ob w' B 5 v l := by
  refine ⟨h.1, ?_⟩
  rcases h.2 with hn | ⟨b, cap, cur, rfl, hb, hg, rest⟩
  · exact .inl hn
  · exact .inr ⟨b, cap, cur, rfl, hb, (hF b rfl).trans hg, rest⟩
theorem WtsC.same {G : Nat → Prop} : ∀ {xs : List (Nat × List UInt8)} {cs : List Value}, WtsC w F B xs cs → (∀ k, F k → w'.heap[k]? = w.heap[k]?) → (∀ k, F k → G k) → WtsC w' G B xs cs
  | [], [], _, _, _ => trivial
  | _ :: _, _ :: _ :: _, h, hk, hG => ⟨⟨h.1.1, h.1.2.1.same fun b hb => hk b (h.1.2.2.2 b hb), h.1.2.2.1, fun b hb => hG b (h.1.2.2.2 b hb)⟩, WtsC.same h.2 hk hG⟩
  | [], _ :: _, h, _, _ => h.elim
  | _ :: _, [], h, _, _ => h.elim
  | _ :: _, [_], h, _, _ => h.elim
theorem RDk.same (h : RDk w F B g D) (hs : w.heap.size ≤ w'.heap.size) (hk : ∀ k, F k → w'.heap[k]? = w.heap[k]?) : RDk w' F B g D := by
  obtain ⟨ga, vw, cs, h1, h2, h3, h4, h5, h6, h7, h8⟩ := h.st
  refine ⟨h.le, h.fg, h.wide, h.few, h.inn, fun k e => ⟨(h.fit k e).1, Nat.lt_of_lt_of_le (h.fit k e).2 hs⟩, ga, vw, cs, (hk g h.fg).trans h1, (hk ga h3).trans h2, h3, h4, h5, ?_, h7.same (fun k e => hk k e.1) (fun _ e => e), h8⟩
  refine ⟨h6.1, ?_⟩
  rcases h6.2 with hn | ⟨b, cap, cur, rfl, hb, hg, rest⟩
  · exact .inl hn
  · exact .inr ⟨b, cap, cur, rfl, hb, (hk b (h8 b rfl).1).trans hg, rest⟩
theorem RDk.lt (h : RDk w F B g D) : g < w.heap.size := by
  obtain ⟨ga, vw, cs, h1, -⟩ := h.st
  exact (Array.getElem?_eq_some_iff.1 h1).1
theorem RDk.fr {F2 : Nat → Prop} (h : RDk w F B g D) (hf : Fr F2 w w') (hd : ∀ k, F k → ¬ F2 k) : RDk w' F B g D := h.same hf.size fun k hk => hf.block k (h.fit k hk).2 (hd k hk)
theorem RDk.below (h : RDk w F B g D) (hb : Below w.heap.size w w') : RDk w' F B g D := h.same hb.size fun k hk => hb.block k (h.fit k hk).2
/-- Its five cells. -/
theorem RDk.cells (h : RDk w F B g D) : ∃ (ga : Nat) (vw : Value), (w.cell? ⟨g, 0, none⟩ = some (.slice (some ⟨ga, 0, none⟩) (D.secs.length * 64) (D.secs.length * 64)) ∧ w.cell? ⟨g, 1, none⟩ = some vw ∧ w.cell? ⟨g, 2, none⟩ = some (.bool D.dead) ∧ w.cell? ⟨g, 3, none⟩ = some (.bool D.armed) ∧ w.cell? ⟨g, 4, none⟩ = some (.int .i64 D.left)) ∧ ∀ j, w.frozen? ⟨g, j, none⟩ = false := by
  obtain ⟨ga, vw, cs, h1, -⟩ := h.st
  refine ⟨ga, vw, ⟨?_, ?_, ?_, ?_, ?_⟩, fun j => ?_⟩ <;> simp [World.cell?, World.frozen?, h1]
/-- Its power's cells written anew. -/
theorem RDk.turn (h : RDk w F B g D) (a b : Bool) (c : Int) (hf : Fr F w w') (h2 : ∃ (ga : Nat) (vw : Value), w.heap[g]? = some (.cells #[.slice (some ⟨ga, 0, none⟩) (D.secs.length * 64) (D.secs.length * 64), vw, .bool D.dead, .bool D.armed, .int .i64 D.left] 68 (0, 0)) ∧ w'.heap[g]? = some (.cells #[.slice (some ⟨ga, 0, none⟩) (D.secs.length * 64) (D.secs.length * 64), vw, .bool a, .bool b, .int .i64 c] 68 (0, 0)))
    (hk : ∀ k, k ≠ g → w'.heap[k]? = w.heap[k]?) : RDk w' F B g { D with dead := a, armed := b, left := c } := by
  obtain ⟨ga, vw, cs, h1, h3, h4, h5, h6, h7, h8, h9⟩ := h.st
  obtain ⟨ga', vw', e1, e2⟩ := h2
  rw [h1] at e1
  simp only [Option.some.injEq, Obj.cells.injEq, Array.mk.injEq, List.cons.injEq, Value.slice.injEq, Addr.mk.injEq, and_true] at e1
  obtain ⟨rfl, rfl⟩ := e1
  refine ⟨h.le, h.fg, h.wide, h.few, h.inn, fun k e => ⟨(h.fit k e).1, Nat.lt_of_lt_of_le (h.fit k e).2 hf.size⟩, ga, vw, cs, e2, (hk ga h6).trans h3, h4, h5, h6, ?_, h8.same (fun k e => hk k e.2.1) (fun _ e => e), h9⟩
  refine ⟨h7.1, ?_⟩
  rcases h7.2 with hn | ⟨b, cap, cur, rfl, hb, hg, rest⟩
  · exact .inl hn
  · exact .inr ⟨b, cap, cur, rfl, hb, (hk b (h9 b rfl).2.1).trans hg, rest⟩
end
theorem len_of_own {w : World} {B n : Nat} {e : TypeId} {v : Value} {cs : List Value} (h : w.ownsRow B e 2 v n cs) : ∃ A c, v = .slice A n c ∧ n ≤ c := by
  rcases h.2 with ⟨rfl, rfl⟩ | ⟨b, cap, cur, rfl, -, -, hn, -⟩
  · exact ⟨none, 0, rfl, Nat.le_refl _⟩
  · exact ⟨_, cap, rfl, hn⟩

set_option maxRecDepth 100000 in
set_option maxHeartbeats 1000000 in
theorem ralive_any (w : World) {F : Nat → Prop} {B g : Nat} {D : Dk} (h : RDk w F B g D) :
    Calls Try.prog 26 #[.pointer (some ⟨g, 0, none⟩)] w fun e w' => e = .returned (.bool !D.dead) ∧ w = w' := by
  obtain ⟨ga, vw, ⟨c0, c1, c2, c3, c4⟩, hf⟩ := h.cells
  clear c0 c1 c3 c4 hf
  go_enter Try.func26, Try.ntmps26
  go_wp2_with fail
  go_ret
  exact ⟨rfl, rfl⟩
set_option maxRecDepth 100000 in
set_option maxHeartbeats 1000000 in
theorem rwaiting_any (w : World) {F : Nat → Prop} {B g : Nat} {D : Dk} (h : RDk w F B g D) :
    Calls Try.prog 28 #[.pointer (some ⟨g, 0, none⟩)] w fun e w' => e = .returned (.int .i64 (D.waits.length : Int)) ∧ w = w' := by
  obtain ⟨ga, vw, cs, h1, h3, h4, h5, h6, h7, -⟩ := h.st
  obtain ⟨A, c, rfl, -⟩ := len_of_own h7
  have c1 : w.cell? ⟨g, 1, none⟩ = some (.slice A D.waits.length c) := by simp [World.cell?, h1]
  clear h1 h3 h4 h5 h6 h7
  generalize D.waits.length = n at *
  go_enter Try.func28, Try.ntmps28
  go_wp2_with fail
  go_ret
  exact ⟨rfl, rfl⟩
set_option maxRecDepth 100000 in
set_option maxHeartbeats 1000000 in
theorem rstart_any (w : World) {F : Nat → Prop} {B g : Nat} {D : Dk} (h : RDk w F B g D) :
    Calls Try.prog 24 #[.pointer (some ⟨g, 0, none⟩)] w fun e w' => e = .returned (.tuple #[]) ∧ RDk w' F B g { D with dead := false, armed := false } ∧ Fr F w w' := by
  obtain ⟨ga, vw, ⟨c0, c1, c2, c3, c4⟩, hf⟩ := h.cells
  have f2 := hf 2
  have f3 := hf 3
  have H := Lib.hid h
  clear c0 c1 c4 hf h
  go_enter Try.func24, Try.ntmps24
  go_wp2_with fail
  refine bodyPost_end (v := .tuple #[]) (by simp [results, Try.results24]) rfl ?_
  have hF : Fr F w ((w.setCell ⟨g, 2, none⟩ (.bool false)).setCell ⟨g, 3, none⟩ (.bool false)) := ((Fr.refl F w).setCell (p := ⟨g, 2, none⟩) (.inl H.out.fg) _).setCell (p := ⟨g, 3, none⟩) (.inl H.out.fg) _
  obtain ⟨ga, vw, cs, h1, -⟩ := H.out.st
  exact ⟨rfl, H.out.turn false false D.left hF ⟨ga, vw, h1, row_setC (row_setC h1 2 _) 3 _⟩ (fun k hk => (Below.heap_setCell _ _ _ _ hk).trans (Below.heap_setCell _ _ _ _ hk)), hF⟩
set_option maxRecDepth 100000 in
set_option maxHeartbeats 1000000 in
theorem rarm_any (n : Int) (w : World) {F : Nat → Prop} {B g : Nat} {D : Dk} (h : RDk w F B g D) :
    Calls Try.prog 20 #[.pointer (some ⟨g, 0, none⟩), .int .i64 n] w fun e w' => e = .returned (.tuple #[]) ∧ RDk w' F B g { D with armed := decide (0 ≤ n), left := n } ∧ Fr F w w' := by
  obtain ⟨ga, vw, ⟨c0, c1, c2, c3, c4⟩, hf⟩ := h.cells
  have f3 := hf 3
  have f4 := hf 4
  have H := Lib.hid h
  clear c0 c1 c2 hf h
  go_enter Try.func20, Try.ntmps20
  go_wp2_with fail
  refine bodyPost_end (v := .tuple #[]) (by simp [results, Try.results20]) rfl ?_
  have hF : Fr F w ((w.setCell ⟨g, 3, none⟩ (.bool (decide (0 ≤ n)))).setCell ⟨g, 4, none⟩ (.int .i64 n)) := ((Fr.refl F w).setCell (p := ⟨g, 3, none⟩) (.inl H.out.fg) _).setCell (p := ⟨g, 4, none⟩) (.inl H.out.fg) _
  obtain ⟨ga, vw, cs, h1, -⟩ := H.out.st
  exact ⟨rfl, H.out.turn D.dead (decide (0 ≤ n)) n hF ⟨ga, vw, h1, row_setC (row_setC h1 3 _) 4 _⟩ (fun k hk => (Below.heap_setCell _ _ _ _ hk).trans (Below.heap_setCell _ _ _ _ hk)), hF⟩
/-- Does the power go at this call? -/
def Dk.goes (D : Dk) : Bool := D.armed && (D.left == 0)
def Dk.went (D : Dk) : Dk := if D.armed = true then (if D.left = 0 then { D with dead := true, armed := false } else { D with left := wrap64 (D.left - 1) }) else D
set_option maxRecDepth 100000 in
set_option maxHeartbeats 1000000 in
theorem rgoes_any (w : World) {F : Nat → Prop} {B g : Nat} {D : Dk} (h : RDk w F B g D) :
    Calls Try.prog 37 #[.pointer (some ⟨g, 0, none⟩)] w fun e w' => e = .returned (.bool D.goes) ∧ RDk w' F B g D.went ∧ Fr F w w' := by
  obtain ⟨ga, vw, ⟨c0, c1, c2, c3, c4⟩, hf⟩ := h.cells
  have f2 := hf 2
  have f3 := hf 3
  have f4 := hf 4
  have H := Lib.hid h
  clear c0 c1 hf h
  obtain ⟨S, ws, d, a, n⟩ := D
  cases a with
  | false =>
    have HG : Hid ((⟨S, ws, d, false, n⟩ : Dk).goes = false ∧ (⟨S, ws, d, false, n⟩ : Dk).went = ⟨S, ws, d, false, n⟩) := ⟨rfl, rfl⟩
    go_enter Try.func37, Try.ntmps37
    go_wp2_with fail
    go_ret
    exact ⟨by rw [HG.out.1]; rfl, by rw [HG.out.2]; exact H.out, Fr.refl F w⟩
  | true =>
    obtain ⟨ga, vw, cs, h1, -⟩ := H.out.st
    have H1 := Lib.hid h1
    clear h1
    by_cases hn : n = 0
    · subst hn
      have HG : Hid ((⟨S, ws, d, true, 0⟩ : Dk).goes = true ∧ (⟨S, ws, d, true, 0⟩ : Dk).went = ⟨S, ws, true, false, 0⟩) := ⟨rfl, rfl⟩
      go_enter Try.func37, Try.ntmps37
      go_wp2_with fail
      go_ret
      have hF : Fr F w ((w.setCell ⟨g, 2, none⟩ (.bool true)).setCell ⟨g, 3, none⟩ (.bool false)) := ((Fr.refl F w).setCell (p := ⟨g, 2, none⟩) (.inl H.out.fg) _).setCell (p := ⟨g, 3, none⟩) (.inl H.out.fg) _
      exact ⟨by rw [HG.out.1]; rfl, by rw [HG.out.2]; exact H.out.turn true false 0 hF ⟨_, _, H1.out, row_setC (row_setC H1.out 2 _) 3 _⟩ (fun k hk => (Below.heap_setCell _ _ _ _ hk).trans (Below.heap_setCell _ _ _ _ hk)), hF⟩
    · have h0 : (n == 0) = false := by simpa using hn
      have HG : Hid ((⟨S, ws, d, true, n⟩ : Dk).goes = false ∧ (⟨S, ws, d, true, n⟩ : Dk).went = ⟨S, ws, d, true, wrap64 (n - 1)⟩) := ⟨by simp [Dk.goes, hn], by simp [Dk.went, hn]⟩
      clear hn
      go_enter Try.func37, Try.ntmps37
      go_wp2_with fail
      go_ret
      have hF : Fr F w (w.setCell ⟨g, 4, none⟩ (.int .i64 (wrap64 (n - 1)))) := (Fr.refl F w).setCell (p := ⟨g, 4, none⟩) (.inl H.out.fg) _
      exact ⟨by rw [HG.out.1]; rfl, by rw [HG.out.2]; exact H.out.turn d true _ hF ⟨_, _, H1.out, row_setC H1.out 4 _⟩ (fun k hk => Below.heap_setCell _ _ _ _ hk), hF⟩
theorem ob_whole13 {w : World} {base g n : Nat} {t : TypeId} {l : List UInt8} (h : Ob w base t (.slice (some ⟨g, 0, none⟩) n n) l) (hn : l.length = n) : w.heap[g]? = some (.cells (l.map fun x => Value.int .u8 (x.toNat : Int)).toArray t (0, 0)) := by
  rcases h.2 with ⟨e, _⟩ | ⟨g', cap, cur, e, hb, hg, hnc, hm, hs, ht⟩
  · cases e
  · simp only [Value.slice.injEq, Option.some.injEq, Addr.mk.injEq] at e
    obtain ⟨⟨rfl, _, _⟩, e2, rfl⟩ := e
    rw [hg]
    have : cur = (l.map bv).toArray := by
      rw [← ht, List.take_of_length_le (by simp [hs, hn])]
    rw [this]
    rfl
/-- make of bytes. -/
theorem ob_made {w : World} {base g M : Nat} {t : TypeId} (h : w.ownsRow base t 1 (.slice (some ⟨g, 0, none⟩) M M) M (madeCells (Value.int IntKind.u8 0).cells (M * 1)).toList) : Ob w base t (.slice (some ⟨g, 0, none⟩) M M) (List.replicate M 0) := by
  have e : (madeCells (Value.int IntKind.u8 0).cells (M * 1)).toList = (List.replicate M (0 : UInt8)).map bv := by
    apply List.ext_getElem?
    intro j
    have hz1 : (Value.int IntKind.u8 0).cells = #[.int .u8 0] := rfl
    rw [hz1]
    by_cases hj : j < M
    · simp [hj, madeCells, Nat.mod_one, bv]
    · simp [hj, madeCells]
  unfold Ob
  rw [List.length_replicate, ← e]
  exact h
/-- What New answers. -/
def NewR (n : Int) (w : World) (e : Ending) (w' : World) : Prop := (1 ≤ n ∧ n ≤ 65536 ∧ ∃ (F : Nat → Prop) (g : Nat), e = .returned (.tuple #[.pointer (some ⟨g, 0, none⟩), .int .i64 0]) ∧ RDk w' F w.heap.size g ⟨List.replicate n.toNat (List.replicate 64 0), [], false, false, 0⟩ ∧ Below w.heap.size w w') ∨
  (¬ (1 ≤ n ∧ n ≤ 65536) ∧ e = .returned (.tuple #[.pointer none, .int .i64 2]) ∧ Below w.heap.size w w')
theorem flat_rep (m : Nat) : (List.replicate m (List.replicate 64 (0 : UInt8))).flatten = List.replicate (m * 64) 0 := by
  rw [List.flatten_replicate_replicate]
set_option maxRecDepth 100000 in
set_option maxHeartbeats 2000000 in
theorem rnew_any (n : Int) (w : World) : Calls Try.prog 15 #[.int .i64 n] w (NewR n w) := by
  by_cases h1 : n < 1
  · go_enter Try.func15, Try.ntmps15
    go_wp2_with fail
    refine bodyPost_ret (v := .tuple #[.pointer none, .int .i64 2]) (by simp [results, Try.results15, go_sem]) rfl (show NewR _ _ _ _ from .inr ⟨by omega, rfl, Below.refl _ _⟩)
  by_cases h2 : 65536 < n
  · have h0 : ¬ n < 1 := h1
    have HN : Hid (¬ (1 ≤ n ∧ n ≤ 65536)) := by show ¬ _; omega
    go_enter Try.func15, Try.ntmps15
    go_wp2_with fail
    refine bodyPost_ret (v := .tuple #[.pointer none, .int .i64 2]) (by simp [results, Try.results15, go_sem]) rfl (show NewR _ _ _ _ from .inr ⟨HN.out, rfl, Below.refl _ _⟩)
  obtain ⟨m, hm⟩ : ∃ m : Nat, n = (m : Int) := ⟨n.toNat, by omega⟩
  subst hm
  obtain ⟨i0, hi0, hz0, hz1, hz2⟩ := info_parts info_u8
  have HI := Lib.hid (And.intro hi0 (And.intro hz0 (And.intro hz1 hz2)))
  have HM : Hid (1 ≤ m ∧ m ≤ 65536) := by show _ ∧ _; omega
  have hw : IntKind.i64.wrap ((m : Int) * 64) = ((m * 64 : Nat) : Int) := by rw [IntKind.wrap_i64]; omega
  clear hi0 hz0 hz1 hz2
  go_enter Try.func15, Try.ntmps15
  go_wp2_with (first
    | (refine wpList_make_full _ rfl (.tmp 11) (.tmp 11) 33 rfl w.heap.size 5 i0 (.int .u8 0) 1 Try.underlying33 HI.out.1 HI.out.2.1 HI.out.2.2.1 .i64 .i64 _ _ (m * 64) rfl rfl (by first | rfl | omega | simp) (by first | rfl | omega | simp) (by rw [HI.out.2.2.2]; have := HM.out; omega) (by have := HM.out; unfold maxLen; omega) (Nat.le_refl _) ?_; intro w1 ho1 hg1; have O1 := Lib.hid (And.intro ho1 hg1); clear ho1 hg1)
    | fail)
  have hob := ob_whole13 (ob_made O1.out.1) (by simp)
  have hb1 : Below w.heap.size w w1 := ⟨O1.out.2.os, O1.out.2.tape, O1.out.2.output, O1.out.2.size, fun k hk => O1.out.2.block k hk (by simp)⟩
  have hlt : w.heap.size < w1.heap.size := (Array.getElem?_eq_some_iff.1 hob).1
  have hm := HM.out
  refine bodyPost_ret (v := .tuple #[.pointer (some ⟨w1.heap.size, 0, none⟩), .int .i64 0]) (by simp [results, Try.results15, go_sem]) rfl (show NewR _ _ _ _ from .inl ⟨h1, h2, fun k => k = w.heap.size ∨ k = w1.heap.size, w1.heap.size, rfl, ?_, hb1.alloc hb1.size _⟩)
  refine ⟨hb1.size, .inr rfl, fun s hs => by rw [(List.mem_replicate.1 hs).2]; simp, by simp; omega, fun x hx => (nomatch hx), fun k hk => ?_, w.heap.size, .slice none 0 0, [], ?_, ?_, .inl rfl, Nat.le_refl _, Nat.ne_of_lt hlt, World.ownsRow_nil _ _ _ 2, trivial, fun b hb => (nomatch hb)⟩
  · rcases hk with rfl | rfl
    · exact ⟨Nat.le_refl _, by simp; omega⟩
    · exact ⟨hb1.size, by simp⟩
  · rw [heap_alloc_new w1 _]
    simp
  · rw [Below.heap_alloc _ _ _ hlt, hob]
    have e : (List.replicate (m : Int).toNat (List.replicate 64 (0 : UInt8))).flatten = List.replicate (m * 64) 0 := flat_rep m
    rw [e]
end Go.Proofs.Ytchcimckffonjaa
