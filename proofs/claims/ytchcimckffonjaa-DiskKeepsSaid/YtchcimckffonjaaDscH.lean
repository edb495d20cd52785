/- The code's disk in a law: what each call makes of it. -/
import Derived.Test.YtchcimckffonjaaDscG
import Derived.Test.YtchcimckffonjaaDscN
import Derived.Deep.Onto
namespace Go.Proofs.Ytchcimckffonjaa
open Go.RowKit

theorem CDk.mono {w : World} {F : Nat → Prop} {B B' g : Nat} {D : Cd} (h : CDk w F B g D) (hB : B' ≤ B) : CDk w F B' g D := by
  obtain ⟨ga, vw, h1, h2, h3, h4, h5, h6, h7⟩ := h.st
  exact ⟨Nat.le_trans hB h.le, h.fg, h.wide, h.pos, h.few, h.inn, h.wid, fun k hk => ⟨Nat.le_trans hB (h.fit k hk).1, (h.fit k hk).2⟩, ga, vw, h1, h2, h3, Nat.le_trans hB h4, h5, World.ownsRow.mono h6 hB, h7⟩
/-- Nothing asks whether there is power: a disk with power for ever. -/
theorem Cd.fp_end {D : Cd} (h : D.left = -1) : D.fp = D := by unfold Cd.fp; rw [if_neg (by omega), if_neg (by omega)]
theorem Cd.write_end {D : Cd} {at_ : Int} {b : List UInt8} (hp : D.power = true) (h : D.left = -1) (h0 : 0 ≤ at_) (h1 : at_ < (D.secs.length : Int)) (hb : b.length = 64) : D.write at_ b = ({ D with waits := D.waits ++ [(at_.toNat, b)] }, 0) := by
  unfold Cd.write
  rw [Cd.fp_end h, if_neg (by simp [hp]), if_neg (by omega), if_neg (by omega), if_neg (by simp [hp])]
theorem Cd.write_off {D : Cd} {at_ : Int} {b : List UInt8} (hp : D.power = true) (h : at_ < 0 ∨ (D.secs.length : Int) ≤ at_) : D.write at_ b = (D, 130) := by
  unfold Cd.write
  rw [if_neg (by simp [hp]), if_pos h]
theorem Cd.write_short {D : Cd} {at_ : Int} {b : List UInt8} (hp : D.power = true) (h0 : 0 ≤ at_) (h1 : at_ < (D.secs.length : Int)) (hb : b.length ≠ 64) : D.write at_ b = (D, 2) := by
  unfold Cd.write
  rw [if_neg (by simp [hp]), if_neg (by omega), if_pos hb]
theorem Cd.flush_end {D : Cd} (hp : D.power = true) (h : D.left = -1) : D.flush = ({ D with secs := layW D.secs D.waits, waits := [] }, 0) := by
  unfold Cd.flush
  rw [Cd.fp_end h, if_neg (by simp [hp]), if_neg (by simp [hp])]
theorem Cd.write_len {D : Cd} {at_ : Int} {b : List UInt8} : (D.write at_ b).1.secs.length = D.secs.length ∧ (D.write at_ b).1.waits.length ≤ D.waits.length + 1 := by
  unfold Cd.write
  split
  · exact ⟨rfl, Nat.le_succ _⟩
  · split
    · exact ⟨rfl, Nat.le_succ _⟩
    · split
      · exact ⟨rfl, Nat.le_succ _⟩
      · split
        · exact ⟨by rw [Cd.fp_secs], by rw [Cd.fp_waits]; omega⟩
        · exact ⟨by rw [Cd.fp_secs], by simp⟩
theorem Cd.flush_len {D : Cd} : D.flush.1.secs.length = D.secs.length ∧ D.flush.1.waits.length ≤ D.waits.length := by
  unfold Cd.flush
  split
  · exact ⟨rfl, Nat.le_refl _⟩
  · split
    · exact ⟨by rw [Cd.fp_secs], by rw [Cd.fp_waits]; omega⟩
    · exact ⟨by rw [layW_len], by simp⟩
theorem Cd.crash_len {D : Cd} {ks : List Int} : (D.crash ks).secs.length = D.secs.length ∧ (D.crash ks).waits.length ≤ D.waits.length := ⟨by unfold Cd.crash; rw [tornW_len], by simp [Cd.crash]⟩
/-- A disk of one's own in a law that began at w0. -/
def CAt (w0 w : World) (g : Nat) (D : Cd) : Prop := ∃ F, CDk w F w0.heap.size g D ∧ Below w0.heap.size w0 w
section
variable {w0 w w1 : World} {g : Nat} {D : Cd}
theorem CAt.base (h : CAt w0 w g D) : Below w0.heap.size w0 w := h.choose_spec.2
theorem CAt.size (h : CAt w0 w g D) : w0.heap.size ≤ w.heap.size := h.base.size
theorem CAt.below (h : CAt w0 w g D) (hb : Below w.heap.size w w1) : CAt w0 w1 g D := by
  obtain ⟨F, h1, h2⟩ := h
  exact ⟨F, h1.below hb, h2.trans (hb.mono h2.size)⟩
theorem CAt.few (h : CAt w0 w g D) : D.secs.length ≤ 65536 := h.choose_spec.1.few
theorem CAt.wide (h : CAt w0 w g D) : ∀ s ∈ D.secs, s.length = 64 := h.choose_spec.1.wide
theorem CAt.wid (h : CAt w0 w g D) : ∀ x ∈ D.waits, x.2.length = 64 := h.choose_spec.1.wid
theorem CAt.inn (h : CAt w0 w g D) : ∀ x ∈ D.waits, x.1 < D.secs.length := h.choose_spec.1.inn
def CatN (w0 : World) (n : Int) (e : Ending) (w' : World) : Prop := (1 ≤ n ∧ n ≤ 65536 ∧ ∃ g, e = .returned (.tuple #[.pointer (some ⟨g, 0, none⟩), .int .i64 0]) ∧ CAt w0 w' g ⟨List.replicate n.toNat z64, [], true, -1⟩) ∨ (¬ (1 ≤ n ∧ n ≤ 65536) ∧ e = .returned (.tuple #[.pointer none, .int .i64 2]) ∧ Below w0.heap.size w0 w')
theorem cat_new (n : Int) (hb : Below w0.heap.size w0 w) : Calls Try.prog 9 #[.int .i64 n] w (CatN w0 n) :=
  (cnew_any n w).mono fun e w' h => by
    rcases h with ⟨h1, h2, F, g, he, hc, hw⟩ | ⟨h1, he, hw⟩
    · exact .inl ⟨h1, h2, g, he, F, hc.mono hb.size, hb.trans (hw.mono hb.size)⟩
    · exact .inr ⟨h1, he, hb.trans (hw.mono hb.size)⟩
/-- What a call that answers a number makes. -/
def CatR (w0 : World) (g : Nat) (r : Cd × Int) (e : Ending) (w' : World) : Prop := e = .returned (.int .i64 r.2) ∧ CAt w0 w' g r.1
theorem catR_of {F : Nat → Prop} {r : Cd × Int} (hb : Below w0.heap.size w0 w) (hF : ∀ k, F k → w0.heap.size ≤ k) {e : Ending} {w' : World} (h : CWriteR w F w0.heap.size g r e w') : CatR w0 g r e w' := by
  obtain ⟨F', h1, h2, h3, h4⟩ := h
  exact ⟨h2, F', h1, hb.trans (h3.below hb.size hF)⟩
/-- A write of bytes that came behind the disk. -/
theorem cat_write (at_ : Int) (h : CAt w0 w g D) (hb : Below w.heap.size w w1) {t : TypeId} {v : Value} {l : List UInt8} (ho : Ob w1 w.heap.size t v l) (hw : D.waits.length ≤ 1000000) :
    Calls Try.prog 10 #[.pointer (some ⟨g, 0, none⟩), .int .i64 at_, v] w1 (CatR w0 g (D.write at_ l)) := by
  obtain ⟨F, h1, h2⟩ := h
  obtain ⟨A, c, rfl, -, -, hr⟩ := ho.rd
  refine (cwrite_any w1 at_ (h1.below hb) hr (Nat.le_refl _) (fun ad e hF => ?_) hw).mono fun e w' h => catR_of (h2.trans (hb.mono h2.size)) (fun k hk => (h1.fit k hk).1) h
  subst e
  have h3 := (World.ownsRow.lt ho ad.block rfl).1
  have h4 := (h1.fit _ hF).2
  omega
theorem cat_write_nil (at_ : Int) (h : CAt w0 w g D) (hw : D.waits.length ≤ 1000000) : Calls Try.prog 10 #[.pointer (some ⟨g, 0, none⟩), .int .i64 at_, .slice none 0 0] w (CatR w0 g (D.write at_ [])) :=
  cat_write (t := 5) at_ h (Below.refl _ _) (Ob.nil_ _ _ _) hw
theorem cat_flush (h : CAt w0 w g D) (hw : D.waits.length ≤ 1000000) : Calls Try.prog 12 #[.pointer (some ⟨g, 0, none⟩)] w (CatR w0 g D.flush) := by
  obtain ⟨F, h1, h2⟩ := h
  exact (cflush_any w h1 hw).mono fun e w' h => catR_of h2 (fun k hk => (h1.fit k hk).1) h
/-- What Read answers, in a law. -/
def CatO (w0 w : World) (g : Nat) (D : Cd) (at_ : Int) (e : Ending) (w' : World) : Prop := CAt w0 w' g D ∧ Below w.heap.size w w' ∧
  ((D.power = false ∧ e = .returned (.tuple #[.slice none 0 0, .int .i64 131])) ∨ (D.power = true ∧ (at_ < 0 ∨ (D.secs.length : Int) ≤ at_) ∧ e = .returned (.tuple #[.slice none 0 0, .int .i64 130])) ∨
   (D.power = true ∧ 0 ≤ at_ ∧ at_ < (D.secs.length : Int) ∧ ∃ v l, (layW D.secs D.waits)[at_.toNat]? = some l ∧ e = .returned (.tuple #[v, .int .i64 0]) ∧ Ob w' w.heap.size 5 v l))
theorem cat_read (at_ : Int) (h : CAt w0 w g D) (hw : D.waits.length ≤ 1000000) : Calls Try.prog 13 #[.pointer (some ⟨g, 0, none⟩), .int .i64 at_] w (CatO w0 w g D at_) := by
  have h0 := h
  obtain ⟨F, h1, h2⟩ := h
  exact (cread_any w at_ h1 hw).mono fun e w' h => ⟨h0.below h.1, h.1, h.2⟩
theorem cat_crash {n c : Nat} {A : Option Addr} {ks : List Int} (h : CAt w0 w g D) (hw : D.waits.length ≤ 1000000) (hn : n = ks.length) (hk : 0 < n → ∃ b o, A = some ⟨b, o, none⟩ ∧ b < w0.heap.size ∧ ∀ j x, ks[j]? = some x → w0.cell? ⟨b, o + j, none⟩ = some (.int .i64 x)) :
    Calls Try.prog 21 #[.pointer (some ⟨g, 0, none⟩), .slice A n c] w fun e w' => e = .returned (.tuple #[]) ∧ CAt w0 w' g (D.crash ks) := by
  obtain ⟨F, h1, h2⟩ := h
  refine (ccrash_any w h1 hw hn (fun W hW hp => ?_)).mono fun e w' h => ⟨h.1, F, h.2.1, h2.trans (h.2.2.below h2.size (fun k hk => (h1.fit k hk).1))⟩
  obtain ⟨b, o, e, hb, hc⟩ := hk hp
  exact ⟨b, o, e, fun j x hx => ((h2.trans (hW.below h2.size (fun k hk => (h1.fit k hk).1))).cell (p := ⟨b, o + j, none⟩) hb).trans (hc j x hx)⟩
theorem cat_start (h : CAt w0 w g D) : Calls Try.prog 23 #[.pointer (some ⟨g, 0, none⟩)] w fun e w' => e = .returned (.tuple #[]) ∧ CAt w0 w' g { D with power := true, left := -1 } := by
  obtain ⟨F, h1, h2⟩ := h
  exact (cstart_any w h1).mono fun e w' h => ⟨h.1, F, h.2.1, h2.trans (h.2.2.below h2.size (fun k hk => (h1.fit k hk).1))⟩
theorem cat_arm (n : Int) (h : CAt w0 w g D) : Calls Try.prog 19 #[.pointer (some ⟨g, 0, none⟩), .int .i64 n] w fun e w' => e = .returned (.tuple #[]) ∧ CAt w0 w' g { D with left := n } := by
  obtain ⟨F, h1, h2⟩ := h
  exact (carm_any n w h1).mono fun e w' h => ⟨h.1, F, h.2.1, h2.trans (h.2.2.below h2.size (fun k hk => (h1.fit k hk).1))⟩
theorem cat_alive (h : CAt w0 w g D) : Calls Try.prog 25 #[.pointer (some ⟨g, 0, none⟩)] w fun e w' => e = .returned (.bool D.power) ∧ w = w' := calive_any w h.choose_spec.1
theorem cat_waiting (h : CAt w0 w g D) : Calls Try.prog 27 #[.pointer (some ⟨g, 0, none⟩)] w fun e w' => e = .returned (.int .i64 (D.waits.length : Int)) ∧ w = w' := cwaiting_any w h.choose_spec.1
theorem cat_sectors (h : CAt w0 w g D) : Calls Try.prog 29 #[.pointer (some ⟨g, 0, none⟩)] w fun e w' => e = .returned (.int .i64 (D.secs.length : Int)) ∧ w = w' := csectors_any w h.choose_spec.1
end
end Go.Proofs.Ytchcimckffonjaa
