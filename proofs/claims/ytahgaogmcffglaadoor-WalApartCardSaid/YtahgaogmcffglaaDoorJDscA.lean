/- The code's disk: how it lies in memory; its small calls. -/
import Derived.Test.YtahgaogmcffglaaDoorJDskV
import Derived.Test.YtahgaogmcffglaaDoorJDskZ
import Derived.Laws.CopyOwn
namespace Go.Proofs.YtahgaogmcffglaaDoor
open Go.RowKit

/-- The cells of a write that waits. -/
def wcs (x : Nat × List UInt8) : List Value := .int .i64 (x.1 : Int) :: x.2.map bv
/-- The cells of all writes that wait. -/
def rowW : List (Nat × List UInt8) → List Value
  | [] => []
  | x :: xs => wcs x ++ rowW xs
theorem wcs_len {x : Nat × List UInt8} (h : x.2.length = 64) : (wcs x).length = 65 := by simp [wcs, h]
theorem wcs_one (x : Nat × List UInt8) : ∀ u ∈ wcs x, u.oneCell' = true := by
  intro u hu
  rcases List.mem_cons.1 hu with rfl | hu
  · rfl
  · exact bv_one _ u hu
theorem rowW_snoc (x : Nat × List UInt8) : ∀ xs : List (Nat × List UInt8), rowW (xs ++ [x]) = rowW xs ++ wcs x
  | [] => by simp [rowW]
  | y :: ys => by rw [List.cons_append, rowW, rowW_snoc x ys, rowW, List.append_assoc]
theorem rowW_len : ∀ {xs : List (Nat × List UInt8)} (_ : ∀ x ∈ xs, x.2.length = 64), (rowW xs).length = xs.length * 65
  | [], _ => rfl
  | x :: xs, h => by
    rw [rowW, List.length_append, wcs_len (h x (by simp)), rowW_len (fun y hy => h y (by simp [hy])), List.length_cons]
    omega
theorem rowW_at : ∀ {xs : List (Nat × List UInt8)} {i j : Nat} (_ : ∀ x ∈ xs, x.2.length = 64) (hi : i < xs.length) (_ : j < 65), (rowW xs)[i * 65 + j]? = (wcs xs[i])[j]?
  | [], _, _, _, hi, _ => absurd hi (Nat.not_lt_zero _)
  | x :: xs, 0, j, h, _, hj => by
    have hs := wcs_len (h x (by simp))
    rw [rowW, Nat.zero_mul, Nat.zero_add, List.getElem?_append_left (by omega)]
    rfl
  | x :: xs, i + 1, j, h, hi, hj => by
    have hs := wcs_len (h x (by simp))
    rw [rowW, List.getElem?_append_right (by omega), show (i + 1) * 65 + j - (wcs x).length = i * 65 + j by omega, rowW_at (fun y hy => h y (by simp [hy])) (by simpa using hi) hj]
    rfl
/-- The code's disk: its sectors, the writes that wait, power, and how many calls find power yet. -/
structure Cd where
  secs : List (List UInt8)
  waits : List (Nat × List UInt8)
  power : Bool
  left : Int
/-- Block g is a disk that stands as D says; what it lies in is of F. -/
structure CDk (w : World) (F : Nat → Prop) (B g : Nat) (D : Cd) : Prop where
  le : B ≤ g
  fg : F g
  wide : ∀ s ∈ D.secs, s.length = 64
  pos : 0 < D.secs.length
  few : D.secs.length ≤ 65536
  inn : ∀ x ∈ D.waits, x.1 < D.secs.length
  wid : ∀ x ∈ D.waits, x.2.length = 64
  fit : ∀ k, F k → B ≤ k ∧ k < w.heap.size
  st : ∃ (ga : Nat) (vw : Value), w.heap[g]? = some (.cells #[.slice (some ⟨ga, 0, none⟩) D.secs.length D.secs.length, vw, .bool D.power, .int .i64 D.left] 83 (0, 0)) ∧
    w.heap[ga]? = some (.cells (D.secs.flatten.map bv).toArray 77 (0, 0)) ∧ F ga ∧ B ≤ ga ∧ ga ≠ g ∧
    w.ownsRow B 79 65 vw D.waits.length (rowW D.waits) ∧ ∀ b, vw.ownBlock = some b → F b ∧ b ≠ g ∧ b ≠ ga
theorem owns_same {w w' : World} {B n size : Nat} {e : TypeId} {v : Value} {cs : List Value} (h : w.ownsRow B e size v n cs) (hF : ∀ b, v.ownBlock = some b → w'.heap[b]? = w.heap[b]?) : w'.ownsRow B e size v n cs := by
  refine ⟨h.1, ?_⟩
  rcases h.2 with hn | ⟨b, cap, cur, rfl, hb, hg, rest⟩
  · exact .inl hn
  · exact .inr ⟨b, cap, cur, rfl, hb, (hF b rfl).trans hg, rest⟩
theorem len_of_own' {w : World} {B n size : Nat} {e : TypeId} {v : Value} {cs : List Value} (h : w.ownsRow B e size v n cs) : ∃ A c, v = .slice A n c ∧ n ≤ c := by
  rcases h.2 with ⟨rfl, rfl⟩ | ⟨b, cap, cur, rfl, -, -, hn, -⟩
  · exact ⟨none, 0, rfl, Nat.le_refl _⟩
  · exact ⟨_, cap, rfl, hn⟩
section
variable {w w' : World} {F F' : Nat → Prop} {B g : Nat} {D : Cd}
theorem CDk.same (h : CDk w F B g D) (hs : w.heap.size ≤ w'.heap.size) (hk : ∀ k, F k → w'.heap[k]? = w.heap[k]?) : CDk w' F B g D := by
  obtain ⟨ga, vw, h1, h2, h3, h4, h5, h6, h8⟩ := h.st
  exact ⟨h.le, h.fg, h.wide, h.pos, h.few, h.inn, h.wid, fun k e => ⟨(h.fit k e).1, Nat.lt_of_lt_of_le (h.fit k e).2 hs⟩, ga, vw, (hk g h.fg).trans h1, (hk ga h3).trans h2, h3, h4, h5, owns_same h6 (fun b hb => hk b (h8 b hb).1), h8⟩
theorem CDk.lt (h : CDk w F B g D) : g < w.heap.size := by
  obtain ⟨ga, vw, h1, -⟩ := h.st
  exact (Array.getElem?_eq_some_iff.1 h1).1
theorem CDk.fr {F2 : Nat → Prop} (h : CDk w F B g D) (hf : Fr F2 w w') (hd : ∀ k, F k → ¬ F2 k) : CDk w' F B g D := h.same hf.size fun k hk => hf.block k (h.fit k hk).2 (hd k hk)
theorem CDk.below (h : CDk w F B g D) (hb : Below w.heap.size w w') : CDk w' F B g D := h.same hb.size fun k hk => hb.block k (h.fit k hk).2
/-- Its four cells. -/
theorem CDk.cells (h : CDk w F B g D) : ∃ (ga : Nat) (vw : Value), (w.cell? ⟨g, 0, none⟩ = some (.slice (some ⟨ga, 0, none⟩) D.secs.length D.secs.length) ∧ w.cell? ⟨g, 1, none⟩ = some vw ∧ w.cell? ⟨g, 2, none⟩ = some (.bool D.power) ∧ w.cell? ⟨g, 3, none⟩ = some (.int .i64 D.left)) ∧ ∀ j, w.frozen? ⟨g, j, none⟩ = false := by
  obtain ⟨ga, vw, h1, -⟩ := h.st
  refine ⟨ga, vw, ⟨?_, ?_, ?_, ?_⟩, fun j => ?_⟩ <;> simp [World.cell?, World.frozen?, h1]
/-- Its power's cells written anew. -/
theorem CDk.turn (h : CDk w F B g D) (a : Bool) (c : Int) (hf : Fr F w w') (h2 : ∃ (ga : Nat) (vw : Value), w.heap[g]? = some (.cells #[.slice (some ⟨ga, 0, none⟩) D.secs.length D.secs.length, vw, .bool D.power, .int .i64 D.left] 83 (0, 0)) ∧ w'.heap[g]? = some (.cells #[.slice (some ⟨ga, 0, none⟩) D.secs.length D.secs.length, vw, .bool a, .int .i64 c] 83 (0, 0)))
    (hk : ∀ k, k ≠ g → w'.heap[k]? = w.heap[k]?) : CDk w' F B g { D with power := a, left := c } := by
  obtain ⟨ga, vw, h1, h3, h4, h5, h6, h7, h9⟩ := h.st
  obtain ⟨ga', vw', e1, e2⟩ := h2
  rw [h1] at e1
  simp only [Option.some.injEq, Obj.cells.injEq, Array.mk.injEq, List.cons.injEq, Value.slice.injEq, Addr.mk.injEq, and_true] at e1
  obtain ⟨rfl, rfl⟩ := e1
  exact ⟨h.le, h.fg, h.wide, h.pos, h.few, h.inn, h.wid, fun k e => ⟨(h.fit k e).1, Nat.lt_of_lt_of_le (h.fit k e).2 hf.size⟩, ga, vw, e2, (hk ga h6).trans h3, h4, h5, h6, owns_same h7 (fun b hb => hk b (h9 b hb).2.1), h9⟩
end

set_option maxRecDepth 100000 in
set_option maxHeartbeats 1000000 in
theorem cgiven_any (w : World) {F : Nat → Prop} {B g : Nat} {D : Cd} (h : CDk w F B g D) :
    Calls Tryd.prog 48 #[.pointer (some ⟨g, 0, none⟩)] w fun e w' => e = .returned (.bool true) ∧ w = w' := by
  obtain ⟨ga, vw, ⟨c0, c1, c2, c3⟩, hf⟩ := h.cells
  have hp := h.pos
  clear c1 c2 c3 hf h
  generalize D.secs.length = N at *
  have t0 : (0 : Int) < (N : Int) := by omega
  go_enter Tryd.func48, Tryd.ntmps48
  go_wp2_with fail
  go_ret
  exact ⟨rfl, rfl⟩
set_option maxRecDepth 100000 in
set_option maxHeartbeats 1000000 in
theorem cgiven_no (w : World) :
    Calls Tryd.prog 48 #[.pointer none] w fun e w' => e = .returned (.bool false) ∧ w = w' := by
  go_enter Tryd.func48, Tryd.ntmps48
  go_wp2_with fail
  go_ret
  exact ⟨rfl, rfl⟩
set_option maxRecDepth 100000 in
set_option maxHeartbeats 1000000 in
theorem cgiven_zero (w : World) {g : Nat} (h : w.cell? ⟨g, 0, none⟩ = some (.slice none 0 0)) :
    Calls Tryd.prog 48 #[.pointer (some ⟨g, 0, none⟩)] w fun e w' => e = .returned (.bool false) ∧ w = w' := by
  go_enter Tryd.func48, Tryd.ntmps48
  go_wp2_with fail
  go_ret
  exact ⟨rfl, rfl⟩
def Cd.run (D : Cd) : Int := if D.power = true then 0 else 131
set_option maxRecDepth 100000 in
set_option maxHeartbeats 1000000 in
theorem cruns_any (w : World) {F : Nat → Prop} {B g : Nat} {D : Cd} (h : CDk w F B g D) :
    Calls Tryd.prog 34 #[.pointer (some ⟨g, 0, none⟩)] w fun e w' => e = .returned (.int .i64 D.run) ∧ w = w' := by
  obtain ⟨ga, vw, ⟨c0, c1, c2, c3⟩, hf⟩ := h.cells
  have C1 := Lib.hid (cgiven_any w h)
  clear c0 c1 c3 hf h
  cases hd : D.power with
  | true =>
    have HG : Hid (D.run = 0) := by show _ = _; simp [Cd.run, hd]
    rw [HG.out]
    rw [hd] at c2
    clear hd
    go_enter Tryd.func34, Tryd.ntmps34
    go_wp2_with fail
    refine C1.out.mono ?_
    rintro e w1 ⟨rfl, rfl⟩
    go_wp2_with fail
    go_ret
    exact ⟨rfl, rfl⟩
  | false =>
    have HG : Hid (D.run = 131) := by show _ = _; simp [Cd.run, hd]
    rw [HG.out]
    rw [hd] at c2
    clear hd
    go_enter Tryd.func34, Tryd.ntmps34
    go_wp2_with fail
    refine C1.out.mono ?_
    rintro e w1 ⟨rfl, rfl⟩
    go_wp2_with fail
    go_ret
    exact ⟨rfl, rfl⟩
def Cd.reach (D : Cd) (at_ : Int) : Int := if D.power = true then (if at_ < 0 ∨ (D.secs.length : Int) ≤ at_ then 130 else 0) else 131
set_option maxRecDepth 100000 in
set_option maxHeartbeats 1000000 in
theorem creaches_any (w : World) {F : Nat → Prop} {B g : Nat} {D : Cd} (at_ : Int) (h : CDk w F B g D) :
    Calls Tryd.prog 32 #[.pointer (some ⟨g, 0, none⟩), .int .i64 at_] w fun e w' => e = .returned (.int .i64 (D.reach at_)) ∧ w = w' := by
  obtain ⟨ga, vw, ⟨c0, c1, c2, c3⟩, hf⟩ := h.cells
  have C1 := Lib.hid (cruns_any w h)
  clear c1 c2 c3 hf h
  cases hd : D.power with
  | false =>
    have HG : Hid (D.reach at_ = 131 ∧ D.run = 131) := by show _ ∧ _; simp [Cd.reach, Cd.run, hd]
    rw [HG.out.1]
    rw [HG.out.2] at C1
    clear hd c0
    go_enter Tryd.func32, Tryd.ntmps32
    go_wp2_with fail
    refine C1.out.mono ?_
    rintro e w1 ⟨rfl, rfl⟩
    go_wp2_with fail
    go_ret
    exact ⟨rfl, rfl⟩
  | true =>
    have HG1 : Hid (D.run = 0) := by show _ = _; simp [Cd.run, hd]
    rw [HG1.out] at C1
    by_cases h0 : at_ < 0
    · have HG : Hid (D.reach at_ = 130) := by show _ = _; simp [Cd.reach, hd, h0]
      rw [HG.out]
      clear hd c0
      go_enter Tryd.func32, Tryd.ntmps32
      go_wp2_with fail
      refine C1.out.mono ?_
      rintro e w1 ⟨rfl, rfl⟩
      go_wp2_with fail
      go_ret
      exact ⟨rfl, rfl⟩
    by_cases h1 : (D.secs.length : Int) ≤ at_
    · have HG : Hid (D.reach at_ = 130) := by show _ = _; simp [Cd.reach, hd, h1]
      rw [HG.out]
      clear hd
      generalize D.secs.length = N at *
      go_enter Tryd.func32, Tryd.ntmps32
      go_wp2_with fail
      refine C1.out.mono ?_
      rintro e w1 ⟨rfl, rfl⟩
      go_wp2_with fail
      go_ret
      exact ⟨rfl, rfl⟩
    · have HG : Hid (D.reach at_ = 0) := by show _ = _; simp [Cd.reach, hd, h1]; omega
      rw [HG.out]
      clear hd
      generalize D.secs.length = N at *
      have t1 : at_ < (N : Int) := by omega
      go_enter Tryd.func32, Tryd.ntmps32
      go_wp2_with fail
      refine C1.out.mono ?_
      rintro e w1 ⟨rfl, rfl⟩
      go_wp2_with fail
      go_ret
      exact ⟨rfl, rfl⟩
/-- The disk when a write or a flush asks for power. -/
def Cd.fp (D : Cd) : Cd := if D.left = 0 then { D with power := false } else if 0 < D.left then { D with left := wrap64 (D.left - 1) } else D
set_option maxRecDepth 100000 in
set_option maxHeartbeats 1000000 in
theorem cfinds_any (w : World) {F : Nat → Prop} {B g : Nat} {D : Cd} (h : CDk w F B g D) :
    Calls Tryd.prog 33 #[.pointer (some ⟨g, 0, none⟩)] w fun e w' => e = .returned (.bool D.fp.power) ∧ CDk w' F B g D.fp ∧ Fr F w w' := by
  obtain ⟨ga, vw, ⟨c0, c1, c2, c3⟩, hf⟩ := h.cells
  have f2 := hf 2
  have f3 := hf 3
  have H := Lib.hid h
  clear c0 c1 hf h
  obtain ⟨S, ws, p, n⟩ := D
  obtain ⟨ga, vw, h1, -⟩ := H.out.st
  have H1 := Lib.hid h1
  clear h1
  by_cases hn : n = 0
  · subst hn
    have HG : Hid ((⟨S, ws, p, 0⟩ : Cd).fp = ⟨S, ws, false, 0⟩) := rfl
    rw [HG.out]
    go_enter Tryd.func33, Tryd.ntmps33
    go_wp2_with fail
    go_ret
    have hF : Fr F w (w.setCell ⟨g, 2, none⟩ (.bool false)) := (Fr.refl F w).setCell (p := ⟨g, 2, none⟩) (.inl H.out.fg) _
    exact ⟨rfl, H.out.turn false 0 hF ⟨_, _, H1.out, row_setC H1.out 2 _⟩ (fun k hk => Below.heap_setCell _ _ _ _ hk), hF⟩
  have h0 : (n == 0) = false := by simpa using hn
  by_cases hp : 0 < n
  · have HG : Hid ((⟨S, ws, p, n⟩ : Cd).fp = ⟨S, ws, p, wrap64 (n - 1)⟩) := by show _ = _; simp [Cd.fp, hn, hp]
    rw [HG.out]
    clear hn
    go_enter Tryd.func33, Tryd.ntmps33
    go_wp2_with fail
    go_ret
    have hF : Fr F w (w.setCell ⟨g, 3, none⟩ (.int .i64 (wrap64 (n - 1)))) := (Fr.refl F w).setCell (p := ⟨g, 3, none⟩) (.inl H.out.fg) _
    exact ⟨rfl, H.out.turn p (wrap64 (n - 1)) hF ⟨_, _, H1.out, row_setC H1.out 3 _⟩ (fun k hk => Below.heap_setCell _ _ _ _ hk), hF⟩
  · have HG : Hid ((⟨S, ws, p, n⟩ : Cd).fp = ⟨S, ws, p, n⟩) := by show _ = _; simp [Cd.fp, hn, hp]
    rw [HG.out]
    clear hn
    go_enter Tryd.func33, Tryd.ntmps33
    go_wp2_with fail
    go_ret
    exact ⟨rfl, H.out, Fr.refl F w⟩
set_option maxRecDepth 100000 in
set_option maxHeartbeats 1000000 in
theorem calive_any (w : World) {F : Nat → Prop} {B g : Nat} {D : Cd} (h : CDk w F B g D) :
    Calls Tryd.prog 29 #[.pointer (some ⟨g, 0, none⟩)] w fun e w' => e = .returned (.bool D.power) ∧ w = w' := by
  obtain ⟨ga, vw, ⟨c0, c1, c2, c3⟩, hf⟩ := h.cells
  have C1 := Lib.hid (cgiven_any w h)
  clear c0 c1 c3 hf h
  go_enter Tryd.func29, Tryd.ntmps29
  go_wp2_with fail
  refine C1.out.mono ?_
  rintro e w1 ⟨rfl, rfl⟩
  go_wp2_with fail
  go_ret
  exact ⟨rfl, rfl⟩
set_option maxRecDepth 100000 in
set_option maxHeartbeats 1000000 in
theorem cwaiting_any (w : World) {F : Nat → Prop} {B g : Nat} {D : Cd} (h : CDk w F B g D) :
    Calls Tryd.prog 45 #[.pointer (some ⟨g, 0, none⟩)] w fun e w' => e = .returned (.int .i64 (D.waits.length : Int)) ∧ w = w' := by
  have C1 := Lib.hid (cgiven_any w h)
  obtain ⟨ga, vw, h1, h3, h4, h5, h6, h7, -⟩ := h.st
  obtain ⟨A, c, rfl, -⟩ := len_of_own' h7
  have c1 : w.cell? ⟨g, 1, none⟩ = some (.slice A D.waits.length c) := by simp [World.cell?, h1]
  clear h1 h3 h4 h5 h6 h7 h
  generalize D.waits.length = n at *
  go_enter Tryd.func45, Tryd.ntmps45
  go_wp2_with fail
  refine C1.out.mono ?_
  rintro e w1 ⟨rfl, rfl⟩
  go_wp2_with fail
  go_ret
  exact ⟨rfl, rfl⟩
set_option maxRecDepth 100000 in
set_option maxHeartbeats 1000000 in
theorem csectors_any (w : World) {F : Nat → Prop} {B g : Nat} {D : Cd} (h : CDk w F B g D) :
    Calls Tryd.prog 44 #[.pointer (some ⟨g, 0, none⟩)] w fun e w' => e = .returned (.int .i64 (D.secs.length : Int)) ∧ w = w' := by
  obtain ⟨ga, vw, ⟨c0, c1, c2, c3⟩, hf⟩ := h.cells
  have C1 := Lib.hid (cgiven_any w h)
  clear c1 c2 c3 hf h
  generalize D.secs.length = n at *
  go_enter Tryd.func44, Tryd.ntmps44
  go_wp2_with fail
  refine C1.out.mono ?_
  rintro e w1 ⟨rfl, rfl⟩
  go_wp2_with fail
  go_ret
  exact ⟨rfl, rfl⟩
set_option maxRecDepth 100000 in
set_option maxHeartbeats 1000000 in
theorem cstart_any (w : World) {F : Nat → Prop} {B g : Nat} {D : Cd} (h : CDk w F B g D) :
    Calls Tryd.prog 31 #[.pointer (some ⟨g, 0, none⟩)] w fun e w' => e = .returned (.tuple #[]) ∧ CDk w' F B g { D with power := true, left := -1 } ∧ Fr F w w' := by
  obtain ⟨ga, vw, ⟨c0, c1, c2, c3⟩, hf⟩ := h.cells
  have C1 := Lib.hid (cgiven_any w h)
  have f2 := hf 2
  have f3 := hf 3
  have H := Lib.hid h
  clear c0 c1 hf h
  go_enter Tryd.func31, Tryd.ntmps31
  go_wp2_with fail
  refine C1.out.mono ?_
  rintro e w1 ⟨rfl, rfl⟩
  go_wp2_with fail
  refine bodyPost_end (v := .tuple #[]) (by simp [results, Tryd.results31]) rfl ?_
  have hF : Fr F w ((w.setCell ⟨g, 2, none⟩ (.bool true)).setCell ⟨g, 3, none⟩ (.int .i64 (-1))) := ((Fr.refl F w).setCell (p := ⟨g, 2, none⟩) (.inl H.out.fg) _).setCell (p := ⟨g, 3, none⟩) (.inl H.out.fg) _
  obtain ⟨ga, vw, h1, -⟩ := H.out.st
  exact ⟨rfl, H.out.turn true (-1) hF ⟨ga, vw, h1, row_setC (row_setC h1 2 _) 3 _⟩ (fun k hk => (Below.heap_setCell _ _ _ _ hk).trans (Below.heap_setCell _ _ _ _ hk)), hF⟩
set_option maxRecDepth 100000 in
set_option maxHeartbeats 1000000 in
theorem carm_any (n : Int) (w : World) {F : Nat → Prop} {B g : Nat} {D : Cd} (h : CDk w F B g D) :
    Calls Tryd.prog 28 #[.pointer (some ⟨g, 0, none⟩), .int .i64 n] w fun e w' => e = .returned (.tuple #[]) ∧ CDk w' F B g { D with left := n } ∧ Fr F w w' := by
  obtain ⟨ga, vw, ⟨c0, c1, c2, c3⟩, hf⟩ := h.cells
  have C1 := Lib.hid (cgiven_any w h)
  have f3 := hf 3
  have H := Lib.hid h
  clear c0 c1 c2 hf h
  go_enter Tryd.func28, Tryd.ntmps28
  go_wp2_with fail
  refine C1.out.mono ?_
  rintro e w1 ⟨rfl, rfl⟩
  go_wp2_with fail
  refine bodyPost_end (v := .tuple #[]) (by simp [results, Tryd.results28]) rfl ?_
  have hF : Fr F w (w.setCell ⟨g, 3, none⟩ (.int .i64 n)) := (Fr.refl F w).setCell (p := ⟨g, 3, none⟩) (.inl H.out.fg) _
  obtain ⟨ga, vw, h1, -⟩ := H.out.st
  exact ⟨rfl, H.out.turn D.power n hF ⟨ga, vw, h1, row_setC h1 3 _⟩ (fun k hk => Below.heap_setCell _ _ _ _ hk), hF⟩
/-- Which bytes of a write are done. -/
def partFT (k : Int) : Int × Int := if k = 1 then (0, 64) else if k = 2 then (0, 32) else if k = 3 then (32, 64) else (0, 0)
set_option maxRecDepth 100000 in
set_option maxHeartbeats 1000000 in
theorem cpart_any (k : Int) (w : World) :
    Calls Tryd.prog 50 #[.int .i64 k] w fun e w' => e = .returned (.tuple #[.int .i64 (partFT k).1, .int .i64 (partFT k).2]) ∧ w = w' := by
  by_cases h1 : k = 1
  · subst h1
    have HG : Hid (partFT 1 = (0, 64)) := rfl
    rw [HG.out]
    go_enter Tryd.func50, Tryd.ntmps50
    go_wp2_with fail
    exact bodyPost_ret (v := .tuple #[.int .i64 0, .int .i64 64]) (by simp [results, Tryd.results50, go_sem]) rfl ⟨rfl, rfl⟩
  have e1 : (k == 1) = false := by simpa using h1
  by_cases h2 : k = 2
  · subst h2
    have HG : Hid (partFT 2 = (0, 32)) := rfl
    rw [HG.out]
    clear h1 e1
    go_enter Tryd.func50, Tryd.ntmps50
    go_wp2_with fail
    exact bodyPost_ret (v := .tuple #[.int .i64 0, .int .i64 32]) (by simp [results, Tryd.results50, go_sem]) rfl ⟨rfl, rfl⟩
  have e2 : (k == 2) = false := by simpa using h2
  by_cases h3 : k = 3
  · subst h3
    have HG : Hid (partFT 3 = (32, 64)) := rfl
    rw [HG.out]
    clear h1 e1 h2 e2
    go_enter Tryd.func50, Tryd.ntmps50
    go_wp2_with fail
    exact bodyPost_ret (v := .tuple #[.int .i64 32, .int .i64 64]) (by simp [results, Tryd.results50, go_sem]) rfl ⟨rfl, rfl⟩
  have e3 : (k == 3) = false := by simpa using h3
  have HG : Hid (partFT k = (0, 0)) := by show _ = _; simp [partFT, h1, h2, h3]
  rw [HG.out]
  clear h1 h2 h3
  go_enter Tryd.func50, Tryd.ntmps50
  go_wp2_with fail
  exact bodyPost_ret (v := .tuple #[.int .i64 0, .int .i64 0]) (by simp [results, Tryd.results50, go_sem]) rfl ⟨rfl, rfl⟩
end Go.Proofs.YtahgaogmcffglaaDoor
