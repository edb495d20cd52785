/- DiskDoes: both disks side by side; what the one says the other says. -/
import Derived.Test.YtchcimckffonjaaDscK
namespace Go.Proofs.Ytchcimckffonjaa
open Go.RowKit

/-- The statement's disk says what the code's does. -/
structure Sim (D : Dk) (C : Cd) : Prop where
  secs : D.secs = C.secs
  waits : D.waits = C.waits
  dead : D.dead = !C.power
  lim : C.left ≤ 9223372036854775807
  arm : C.power = true → D.armed = decide (0 ≤ C.left) ∧ (0 ≤ C.left → D.left = C.left)
theorem Sim.goes {D : Dk} {C : Cd} (h : Sim D C) (hp : C.power = true) : D.goes = !C.fp.power ∧ Sim D.went C.fp := by
  obtain ⟨ha, hl⟩ := h.arm hp
  have hd : D.dead = false := by rw [h.dead, hp]; rfl
  by_cases h0 : C.left = 0
  · have e1 : D.armed = true := by rw [ha, h0]; rfl
    have e2 : D.left = 0 := by rw [hl (by omega), h0]
    have e3 : C.fp = { C with power := false } := by unfold Cd.fp; rw [if_pos h0]
    have e4 : D.went = { D with dead := true, armed := false } := by unfold Dk.went; rw [if_pos e1, if_pos e2]
    refine ⟨by rw [e3]; simp [Dk.goes, e1, e2], ?_⟩
    rw [e3, e4]
    exact ⟨h.secs, h.waits, rfl, h.lim, fun h => by cases h⟩
  by_cases h1 : 0 < C.left
  · have e1 : D.armed = true := by rw [ha]; simp; omega
    have e2 : D.left = C.left := hl (by omega)
    have e3 : C.fp = { C with left := wrap64 (C.left - 1) } := by unfold Cd.fp; rw [if_neg h0, if_pos h1]
    have e4 : D.went = { D with left := wrap64 (D.left - 1) } := by unfold Dk.went; rw [if_pos e1, if_neg (by omega)]
    have lim := h.lim
    have ew : wrap64 (C.left - 1) = C.left - 1 := by unfold wrap64; omega
    refine ⟨by rw [e3]; simp [Dk.goes, e1, e2, hp, h0], ?_⟩
    rw [e3, e4]
    refine ⟨h.secs, h.waits, h.dead, by show wrap64 _ ≤ _; rw [ew]; omega, fun _ => ⟨?_, fun _ => by show wrap64 _ = wrap64 _; rw [e2]⟩⟩
    show D.armed = decide (0 ≤ wrap64 (C.left - 1))
    rw [e1, ew]
    simp; omega
  · have e1 : D.armed = false := by rw [ha]; simp; omega
    have e3 : C.fp = C := by unfold Cd.fp; rw [if_neg h0, if_neg h1]
    have e4 : D.went = D := by unfold Dk.went; rw [if_neg (by simp [e1])]
    rw [e3, e4]
    exact ⟨by simp [Dk.goes, e1, hp], h⟩
theorem Sim.write {D : Dk} {C : Cd} (h : Sim D C) (at_ : Int) (b : List UInt8) : (D.write at_ b).2 = (C.write at_ b).2 ∧ Sim (D.write at_ b).1 (C.write at_ b).1 := by
  unfold Dk.write Cd.write
  cases hp : C.power with
  | false =>
    have hd : D.dead = true := by rw [h.dead, hp]; rfl
    rw [if_pos hd, if_pos rfl]
    exact ⟨rfl, h⟩
  | true =>
    have hd : D.dead = false := by rw [h.dead, hp]; rfl
    obtain ⟨g1, g2⟩ := h.goes hp
    rw [if_neg (show ¬ D.dead = true by simp [hd]), if_neg (show ¬ true = false by decide), h.secs]
    by_cases h1 : at_ < 0 ∨ (C.secs.length : Int) ≤ at_
    · rw [if_pos h1, if_pos h1]; exact ⟨rfl, h⟩
    rw [if_neg h1, if_neg h1]
    by_cases h2 : b.length ≠ 64
    · rw [if_pos h2, if_pos h2]; exact ⟨rfl, h⟩
    rw [if_neg h2, if_neg h2, g1]
    cases hf : C.fp.power with
    | false => rw [if_pos (show (!false) = true from rfl), if_pos (show false = false from rfl)]; exact ⟨rfl, g2⟩
    | true =>
      rw [if_neg (show ¬ (!true) = true by decide), if_neg (show ¬ true = false by decide)]
      refine ⟨rfl, g2.secs, by show D.waits ++ _ = C.waits ++ _; rw [h.waits], g2.dead, g2.lim, g2.arm⟩
theorem Sim.flush {D : Dk} {C : Cd} (h : Sim D C) : D.flush.2 = C.flush.2 ∧ Sim D.flush.1 C.flush.1 := by
  unfold Dk.flush Cd.flush
  cases hp : C.power with
  | false =>
    have hd : D.dead = true := by rw [h.dead, hp]; rfl
    rw [if_pos hd, if_pos rfl]
    exact ⟨rfl, h⟩
  | true =>
    have hd : D.dead = false := by rw [h.dead, hp]; rfl
    obtain ⟨g1, g2⟩ := h.goes hp
    rw [if_neg (show ¬ D.dead = true by simp [hd]), if_neg (show ¬ true = false by decide), g1]
    cases hf : C.fp.power with
    | false => rw [if_pos (show (!false) = true from rfl), if_pos (show false = false from rfl)]; exact ⟨rfl, g2⟩
    | true =>
      rw [if_neg (show ¬ (!true) = true by decide), if_neg (show ¬ true = false by decide)]
      refine ⟨rfl, by show layW D.secs D.waits = layW C.secs C.waits; rw [h.secs, h.waits], rfl, g2.dead, g2.lim, g2.arm⟩
theorem Sim.armed {D : Dk} {C : Cd} (h : Sim D C) (n : Int) (hn : (Lit.int .i64 n).wf = true) : Sim { D with armed := decide (0 ≤ n), left := n } { C with left := n } := by
  have : n ≤ 9223372036854775807 := by
    simp [Lit.wf, IntKind.min, IntKind.max, IntKind.signed, IntKind.bits] at hn
    omega
  exact ⟨h.secs, h.waits, h.dead, this, fun _ => ⟨rfl, fun _ => rfl⟩⟩
theorem Sim.crash {D : Dk} {C : Cd} (h : Sim D C) (ks : List Int) : Sim (D.crash ks) (C.crash ks) := by
  unfold Dk.crash Cd.crash
  rw [h.secs, h.waits]
  exact ⟨rfl, rfl, rfl, (show (-1 : Int) ≤ 9223372036854775807 by decide), fun h => by cases h⟩
theorem Sim.start {D : Dk} {C : Cd} (h : Sim D C) : Sim { D with dead := false, armed := false } { C with power := true, left := -1 } :=
  ⟨h.secs, h.waits, rfl, (show (-1 : Int) ≤ 9223372036854775807 by decide), fun _ => ⟨rfl, fun h => absurd h (show ¬ (0 : Int) ≤ -1 by decide)⟩⟩
theorem RDk.mono13 {w : World} {F : Nat → Prop} {B B' g : Nat} {D : Dk} (h : RDk w F B g D) (hB : B' ≤ B) : RDk w F B' g D := by
  obtain ⟨ga, vw, cs, h1, h2, h3, h4, h5, h6, h7, h8⟩ := h.st
  refine ⟨Nat.le_trans hB h.le, h.fg, h.wide, h.few, h.inn, fun k hk => ⟨Nat.le_trans hB (h.fit k hk).1, (h.fit k hk).2⟩, ga, vw, cs, h1, h2, h3, Nat.le_trans hB h4, h5, World.ownsRow.mono h6 hB, ?_, h8⟩
  have go : ∀ {xs : List (Nat × List UInt8)} {cs : List Value} {G : Nat → Prop}, WtsC w G B xs cs → WtsC w G B' xs cs := by
    intro xs
    induction xs with
    | nil => intro cs G h; cases cs with | nil => trivial | cons _ _ => exact h.elim
    | cons x xs ih =>
      intro cs G h
      match cs, h with
      | c0 :: c1 :: cs, h => exact ⟨⟨h.1.1, World.ownsRow.mono h.1.2.1 hB, h.1.2.2⟩, ih h.2⟩
      | [_], h => exact h.elim
      | [], h => exact h.elim
  exact go h7
/-- Both disks, and a block beside them. -/
def Both (w0 w : World) (g : Nat) (C : Cd) (g2 : Nat) (D : Dk) (gb : Nat) (o : Obj) : Prop :=
  ∃ F F2, CDk w F w0.heap.size g C ∧ RDk w F2 w0.heap.size g2 D ∧ (∀ k, F k → ¬ F2 k) ∧ Below w0.heap.size w0 w ∧ ¬ F gb ∧ ¬ F2 gb ∧ w.heap[gb]? = some o
section
variable {w0 w w1 w' : World} {g g2 gb : Nat} {C C' : Cd} {D D' : Dk} {o : Obj} {F F' F2 : Nat → Prop}
theorem Both.base (h : Both w0 w g C g2 D gb o) : Below w0.heap.size w0 w := by obtain ⟨F, F2, -, -, -, h, -⟩ := h; exact h
theorem Both.row (h : Both w0 w g C g2 D gb o) : w.heap[gb]? = some o := by obtain ⟨F, F2, -, -, -, -, -, -, h⟩ := h; exact h
theorem Both.below (h : Both w0 w g C g2 D gb o) (hb : Below w.heap.size w w1) : Both w0 w1 g C g2 D gb o := by
  obtain ⟨F, F2, h1, h2, h3, h4, h5, h6, h7⟩ := h
  exact ⟨F, F2, h1.below hb, h2.below hb, h3, h4.trans (hb.mono h4.size), h5, h6, (hb.block gb (Array.getElem?_eq_some_iff.1 h7).1).trans h7⟩
/-- Another block stands beside them. -/
theorem Both.other (h : Both w0 w g C g2 D gb o) (hb : Below w.heap.size w w1) {gc : Nat} (hc : w.heap.size ≤ gc) {o' : Obj} (ho : w1.heap[gc]? = some o') : Both w0 w1 g C g2 D gc o' := by
  obtain ⟨F, F2, h1, h2, h3, h4, h5, h6, h7⟩ := h
  exact ⟨F, F2, h1.below hb, h2.below hb, h3, h4.trans (hb.mono h4.size), fun e => by have := (h1.fit _ e).2; omega, fun e => by have := (h2.fit _ e).2; omega, ho⟩
theorem both_code (h1 : CDk w F w0.heap.size g C) (h2 : RDk w F2 w0.heap.size g2 D) (h3 : ∀ k, F k → ¬ F2 k) (h4 : Below w0.heap.size w0 w) (h5 : ¬ F gb) (h6 : ¬ F2 gb) (h7 : w.heap[gb]? = some o) (q1 : CDk w' F' w0.heap.size g C') (q3 : Fr F w w') (q4 : Grew w F F') : Both w0 w' g C' g2 D gb o := by
  have hl := (Array.getElem?_eq_some_iff.1 h7).1
  refine ⟨F', F2, q1, h2.fr q3 (fun k hk hf => h3 k hf hk), fun k hk hk2 => ?_, h4.trans (q3.below h4.size (fun k hk => (h1.fit k hk).1)), fun hf => ?_, h6, (q3.block gb hl h5).trans h7⟩
  · rcases q4 k hk with e | e
    · exact h3 k e hk2
    · have := (h2.fit k hk2).2; omega
  · rcases q4 gb hf with e | e
    · exact h5 e
    · omega
theorem both_ref (h1 : CDk w F w0.heap.size g C) (h2 : RDk w F2 w0.heap.size g2 D) (h3 : ∀ k, F k → ¬ F2 k) (h4 : Below w0.heap.size w0 w) (h5 : ¬ F gb) (h6 : ¬ F2 gb) (h7 : w.heap[gb]? = some o) (q1 : RDk w' F' w0.heap.size g2 D') (q3 : Fr F2 w w') (q4 : Grew w F2 F') : Both w0 w' g C g2 D' gb o := by
  have hl := (Array.getElem?_eq_some_iff.1 h7).1
  refine ⟨F, F', h1.fr q3 h3, q1, fun k hk hk2 => ?_, h4.trans (q3.below h4.size (fun k hk => (h2.fit k hk).1)), h5, fun hf => ?_, (q3.block gb hl h6).trans h7⟩
  · rcases q4 k hk2 with e | e
    · exact h3 k hk e
    · have := (h1.fit k hk).2; omega
  · rcases q4 gb hf with e | e
    · exact h6 e
    · omega
theorem bothC_write (at_ : Int) (h : Both w0 w g C g2 D gb o) (hb : Below w.heap.size w w1) {t : TypeId} {v : Value} {l : List UInt8} (ho : Ob w1 w.heap.size t v l) (hw : C.waits.length ≤ 1000000) :
    Calls Try.prog 10 #[.pointer (some ⟨g, 0, none⟩), .int .i64 at_, v] w1 fun e w' => e = .returned (.int .i64 (C.write at_ l).2) ∧ Both w0 w' g (C.write at_ l).1 g2 D gb o := by
  obtain ⟨F, F2, h1, h2, h3, h4, h5, h6, h7⟩ := h
  obtain ⟨A, c, rfl, -, -, hr⟩ := ho.rd
  refine (cwrite_any w1 at_ (h1.below hb) hr (Nat.le_refl _) (fun ad e hF => ?_) hw).mono fun e w' q => ?_
  · subst e
    have h8 := (World.ownsRow.lt ho ad.block rfl).1
    have h9 := (h1.fit _ hF).2
    omega
  · obtain ⟨F', q1, q2, q3, q4⟩ := q
    exact ⟨q2, both_code (h1.below hb) (h2.below hb) h3 (h4.trans (hb.mono h4.size)) h5 h6 ((hb.block gb (Array.getElem?_eq_some_iff.1 h7).1).trans h7) q1 q3 q4⟩
theorem bothR_write (at_ : Int) (h : Both w0 w g C g2 D gb o) (hb : Below w.heap.size w w1) {t : TypeId} {v : Value} {l : List UInt8} (ho : Ob w1 w.heap.size t v l) (hw : D.waits.length ≤ 1000000) :
    Calls Try.prog 16 #[.pointer (some ⟨g2, 0, none⟩), .int .i64 at_, v] w1 fun e w' => e = .returned (.int .i64 (D.write at_ l).2) ∧ Both w0 w' g C g2 (D.write at_ l).1 gb o := by
  obtain ⟨F, F2, h1, h2, h3, h4, h5, h6, h7⟩ := h
  obtain ⟨A, c, rfl, -, -, hr⟩ := ho.rd
  refine (rwriteD_any w1 at_ (h2.below hb) hr (Nat.le_refl _) (fun ad e hF => ?_) hw).mono fun e w' q => ?_
  · subst e
    have h8 := (World.ownsRow.lt ho ad.block rfl).1
    have h9 := (h2.fit _ hF).2
    omega
  · obtain ⟨F', q1, q2, q3, q4⟩ := q
    exact ⟨q2, both_ref (h1.below hb) (h2.below hb) h3 (h4.trans (hb.mono h4.size)) h5 h6 ((hb.block gb (Array.getElem?_eq_some_iff.1 h7).1).trans h7) q1 q3 q4⟩
theorem bothC_flush (h : Both w0 w g C g2 D gb o) (hw : C.waits.length ≤ 1000000) :
    Calls Try.prog 12 #[.pointer (some ⟨g, 0, none⟩)] w fun e w' => e = .returned (.int .i64 C.flush.2) ∧ Both w0 w' g C.flush.1 g2 D gb o := by
  obtain ⟨F, F2, h1, h2, h3, h4, h5, h6, h7⟩ := h
  exact (cflush_any w h1 hw).mono fun e w' ⟨F', q1, q2, q3, q4⟩ => ⟨q2, both_code h1 h2 h3 h4 h5 h6 h7 q1 q3 q4⟩
theorem bothR_flush (h : Both w0 w g C g2 D gb o) (hw : D.waits.length ≤ 1000000) :
    Calls Try.prog 17 #[.pointer (some ⟨g2, 0, none⟩)] w fun e w' => e = .returned (.int .i64 D.flush.2) ∧ Both w0 w' g C g2 D.flush.1 gb o := by
  obtain ⟨F, F2, h1, h2, h3, h4, h5, h6, h7⟩ := h
  exact (rflush_any w h2 hw).mono fun e w' ⟨F', q1, q2, q3, q4⟩ => ⟨q2, both_ref h1 h2 h3 h4 h5 h6 h7 q1 q3 q4⟩
theorem bothC_read (at_ : Int) (h : Both w0 w g C g2 D gb o) (hw : C.waits.length ≤ 1000000) : Calls Try.prog 13 #[.pointer (some ⟨g, 0, none⟩), .int .i64 at_] w (CReadR C at_ w) := by
  obtain ⟨F, F2, h1, -⟩ := h
  exact cread_any w at_ h1 hw
theorem bothR_read (at_ : Int) (h : Both w0 w g C g2 D gb o) (hw : D.waits.length ≤ 1000000) : Calls Try.prog 18 #[.pointer (some ⟨g2, 0, none⟩), .int .i64 at_] w (ReadR D at_ w) := by
  obtain ⟨F, F2, -, h2, -⟩ := h
  exact rread_any w at_ h2 hw
theorem bothC_arm (n : Int) (h : Both w0 w g C g2 D gb o) : Calls Try.prog 19 #[.pointer (some ⟨g, 0, none⟩), .int .i64 n] w fun e w' => e = .returned (.tuple #[]) ∧ Both w0 w' g { C with left := n } g2 D gb o := by
  obtain ⟨F, F2, h1, h2, h3, h4, h5, h6, h7⟩ := h
  exact (carm_any n w h1).mono fun e w' ⟨q1, q2, q3⟩ => ⟨q1, both_code h1 h2 h3 h4 h5 h6 h7 q2 q3 (Grew.refl _ _)⟩
theorem bothR_arm (n : Int) (h : Both w0 w g C g2 D gb o) : Calls Try.prog 20 #[.pointer (some ⟨g2, 0, none⟩), .int .i64 n] w fun e w' => e = .returned (.tuple #[]) ∧ Both w0 w' g C g2 { D with armed := decide (0 ≤ n), left := n } gb o := by
  obtain ⟨F, F2, h1, h2, h3, h4, h5, h6, h7⟩ := h
  exact (rarm_any n w h2).mono fun e w' ⟨q1, q2, q3⟩ => ⟨q1, both_ref h1 h2 h3 h4 h5 h6 h7 q2 q3 (Grew.refl _ _)⟩
theorem bothC_start (h : Both w0 w g C g2 D gb o) : Calls Try.prog 23 #[.pointer (some ⟨g, 0, none⟩)] w fun e w' => e = .returned (.tuple #[]) ∧ Both w0 w' g { C with power := true, left := -1 } g2 D gb o := by
  obtain ⟨F, F2, h1, h2, h3, h4, h5, h6, h7⟩ := h
  exact (cstart_any w h1).mono fun e w' ⟨q1, q2, q3⟩ => ⟨q1, both_code h1 h2 h3 h4 h5 h6 h7 q2 q3 (Grew.refl _ _)⟩
theorem bothR_start (h : Both w0 w g C g2 D gb o) : Calls Try.prog 24 #[.pointer (some ⟨g2, 0, none⟩)] w fun e w' => e = .returned (.tuple #[]) ∧ Both w0 w' g C g2 { D with dead := false, armed := false } gb o := by
  obtain ⟨F, F2, h1, h2, h3, h4, h5, h6, h7⟩ := h
  exact (rstart_any w h2).mono fun e w' ⟨q1, q2, q3⟩ => ⟨q1, both_ref h1 h2 h3 h4 h5 h6 h7 q2 q3 (Grew.refl _ _)⟩
/-- A keep that came in, whatever the disks did. -/
theorem keep_on (h4 : Below w0.heap.size w0 w) (hF : ∀ k, F k → w0.heap.size ≤ k) {A : Option Addr} {n : Nat} {ks : List Int} (hk : Rz13 w0 A n ks) : ∀ W, Fr F w W → 0 < n → ∃ b o, A = some ⟨b, o, none⟩ ∧ ∀ j x, ks[j]? = some x → W.cell? ⟨b, o + j, none⟩ = some (.int .i64 x) := fun W hW hp => by
  obtain ⟨b, o, e, hb, hc⟩ := hk.keep hp
  exact ⟨b, o, e, fun j x hx => ((h4.trans (hW.below h4.size hF)).cell (p := ⟨b, o + j, none⟩) hb).trans (hc j x hx)⟩
theorem bothC_crash {n c : Nat} {A : Option Addr} {ks : List Int} (h : Both w0 w g C g2 D gb o) (hw : C.waits.length ≤ 1000000) (hk : Rz13 w0 A n ks) : Calls Try.prog 21 #[.pointer (some ⟨g, 0, none⟩), .slice A n c] w fun e w' => e = .returned (.tuple #[]) ∧ Both w0 w' g (C.crash ks) g2 D gb o := by
  obtain ⟨F, F2, h1, h2, h3, h4, h5, h6, h7⟩ := h
  exact (ccrash_any w h1 hw hk.1 (keep_on h4 (fun k e => (h1.fit k e).1) hk)).mono fun e w' ⟨q1, q2, q3⟩ => ⟨q1, both_code h1 h2 h3 h4 h5 h6 h7 q2 q3 (Grew.refl _ _)⟩
theorem bothR_crash {n c : Nat} {A : Option Addr} {ks : List Int} (h : Both w0 w g C g2 D gb o) (hw : D.waits.length ≤ 1000000) (hk : Rz13 w0 A n ks) : Calls Try.prog 22 #[.pointer (some ⟨g2, 0, none⟩), .slice A n c] w fun e w' => e = .returned (.tuple #[]) ∧ Both w0 w' g C g2 (D.crash ks) gb o := by
  obtain ⟨F, F2, h1, h2, h3, h4, h5, h6, h7⟩ := h
  exact (rcrash_any w h2 hw hk.1 (keep_on h4 (fun k e => (h2.fit k e).1) hk)).mono fun e w' ⟨q1, q2, q3⟩ => ⟨q1, both_ref h1 h2 h3 h4 h5 h6 h7 q2 q3 (Grew.refl _ _)⟩
theorem bothC_alive (h : Both w0 w g C g2 D gb o) : Calls Try.prog 25 #[.pointer (some ⟨g, 0, none⟩)] w fun e w' => e = .returned (.bool C.power) ∧ w = w' := by obtain ⟨F, F2, h1, -⟩ := h; exact calive_any w h1
theorem bothR_alive (h : Both w0 w g C g2 D gb o) : Calls Try.prog 26 #[.pointer (some ⟨g2, 0, none⟩)] w fun e w' => e = .returned (.bool !D.dead) ∧ w = w' := by obtain ⟨F, F2, -, h2, -⟩ := h; exact ralive_any w h2
theorem bothC_waiting (h : Both w0 w g C g2 D gb o) : Calls Try.prog 27 #[.pointer (some ⟨g, 0, none⟩)] w fun e w' => e = .returned (.int .i64 (C.waits.length : Int)) ∧ w = w' := by obtain ⟨F, F2, h1, -⟩ := h; exact cwaiting_any w h1
theorem bothR_waiting (h : Both w0 w g C g2 D gb o) : Calls Try.prog 28 #[.pointer (some ⟨g2, 0, none⟩)] w fun e w' => e = .returned (.int .i64 (D.waits.length : Int)) ∧ w = w' := by obtain ⟨F, F2, -, h2, -⟩ := h; exact rwaiting_any w h2
theorem bothC_sectors (h : Both w0 w g C g2 D gb o) : Calls Try.prog 29 #[.pointer (some ⟨g, 0, none⟩)] w fun e w' => e = .returned (.int .i64 (C.secs.length : Int)) ∧ w = w' := by obtain ⟨F, F2, h1, -⟩ := h; exact csectors_any w h1
end
end Go.Proofs.Ytchcimckffonjaa
