/- The code's log in memory; runs, Room, Records. -/
import Derived.Test.YtahgaogmcffglaaDoorJWcF
namespace Go.Proofs.YtahgaogmcffglaaDoor
open Go.RowKit

/-- A log: where it lies, its turn, its length, its records, and whether it found no power once. -/
structure Ws where
  a : Nat
  n : Nat
  t : Nat
  len : Nat
  L : List Rcd
  dead : Bool
/-- Its cells. -/
def Ws.cs (S : Ws) (gd : Nat) (vr : Value) : Array Value := #[.pointer (some ⟨gd, 0, none⟩), .int .i64 (S.a : Int), .int .i64 (S.n : Int), .int .u64 (S.t : Int), .int .i64 (S.len : Int), vr, .bool S.dead]
/-- Block g is a log over the disk at gd that stands as S says; what it lies in, the disk aside, is of F. -/
structure WlK (w : World) (F : Nat → Prop) (B g gd : Nat) (S : Ws) : Prop where
  le : B ≤ g
  fg : F g
  fit : ∀ k, F k → B ≤ k ∧ k < w.heap.size
  few : S.L.length ≤ 1099511627776
  st : ∃ vr qs, w.heap[g]? = some (.cells (S.cs gd vr) 63 (0, 0)) ∧ ScS w B vr qs ∧ qs.map (·.1) = S.L ∧ (∀ b, vr.ownBlock = some b → F b) ∧ ∀ q ∈ qs, ∀ b, (Value.slice q.2.1 q.2.2.1 q.2.2.2).ownBlock = some b → F b
theorem ScS.same {w w' : World} {B : Nat} {v : Value} {qs : List QR} (h : ScS w B v qs) (h1 : ∀ b, v.ownBlock = some b → w'.heap[b]? = w.heap[b]?) (h2 : ∀ q ∈ qs, ∀ b, (Value.slice q.2.1 q.2.2.1 q.2.2.2).ownBlock = some b → w'.heap[b]? = w.heap[b]?) : ScS w' B v qs :=
  ⟨owns_same h.1 h1, fun q hq => ⟨(h.2 q hq).1.same (h2 q hq), (h.2 q hq).2⟩⟩
section
variable {w w' : World} {F : Nat → Prop} {B g gd : Nat} {S : Ws}
theorem WlK.same (h : WlK w F B g gd S) (hs : w.heap.size ≤ w'.heap.size) (hk : ∀ k, F k → w'.heap[k]? = w.heap[k]?) : WlK w' F B g gd S := by
  obtain ⟨vr, qs, h1, h2, h3, h4, h5⟩ := h.st
  exact ⟨h.le, h.fg, fun k hf => ⟨(h.fit k hf).1, Nat.lt_of_lt_of_le (h.fit k hf).2 hs⟩, h.few, vr, qs, (hk g h.fg).trans h1, h2.same (fun b hb => hk b (h4 b hb)) (fun q hq b hb => hk b (h5 q hq b hb)), h3, h4, h5⟩
theorem WlK.fr {F2 : Nat → Prop} (h : WlK w F B g gd S) (hf : Fr F2 w w') (hd : ∀ k, F k → ¬ F2 k) : WlK w' F B g gd S := h.same hf.size fun k hk => hf.block k (h.fit k hk).2 (hd k hk)
theorem WlK.below (h : WlK w F B g gd S) (hb : Below w.heap.size w w') : WlK w' F B g gd S := h.same hb.size fun k hk => hb.block k (h.fit k hk).2
theorem WlK.mono {B' : Nat} (h : WlK w F B g gd S) (hB : B' ≤ B) : WlK w F B' g gd S := by
  obtain ⟨vr, qs, h1, h2, h3, h4, h5⟩ := h.st
  refine ⟨Nat.le_trans hB h.le, h.fg, fun k hf => ⟨Nat.le_trans hB (h.fit k hf).1, (h.fit k hf).2⟩, h.few, vr, qs, h1, ⟨?_, fun q hq => ⟨(h2.2 q hq).1.wide hB, (h2.2 q hq).2⟩⟩, h3, h4, h5⟩
  refine ⟨h2.1.1, ?_⟩
  rcases h2.1.2 with hn | ⟨b, cap, cur, e, hb, rest⟩
  · exact .inl hn
  · exact .inr ⟨b, cap, cur, e, Nat.le_trans hB hb, rest⟩
/-- Its seven cells. -/
theorem WlK.cells (h : WlK w F B g gd S) : ∃ vr qs, (w.cell? ⟨g, 0, none⟩ = some (.pointer (some ⟨gd, 0, none⟩)) ∧ w.cell? ⟨g, 1, none⟩ = some (.int .i64 (S.a : Int)) ∧ w.cell? ⟨g, 2, none⟩ = some (.int .i64 (S.n : Int)) ∧ w.cell? ⟨g, 3, none⟩ = some (.int .u64 (S.t : Int)) ∧ w.cell? ⟨g, 4, none⟩ = some (.int .i64 (S.len : Int)) ∧ w.cell? ⟨g, 5, none⟩ = some vr ∧ w.cell? ⟨g, 6, none⟩ = some (.bool S.dead)) ∧ (∀ j, w.frozen? ⟨g, j, none⟩ = false) ∧ ScS w B vr qs ∧ qs.map (·.1) = S.L := by
  obtain ⟨vr, qs, h1, h2, h3, -⟩ := h.st
  refine ⟨vr, qs, ⟨?_, ?_, ?_, ?_, ?_, ?_, ?_⟩, fun j => by simp [World.frozen?, h1], h2, h3⟩ <;> (rw [cell_of_row w g _ _ _ _ h1]; rfl)
end
def Ws.run (S : Ws) : Int := if S.dead = true then 131 else 0
set_option maxRecDepth 100000 in
set_option maxHeartbeats 2000000 in
theorem wruns_any (w : World) {F : Nat → Prop} {B g gd : Nat} {S : Ws} (h : WlK w F B g gd S) :
    Calls Tryd.prog 38 #[.pointer (some ⟨g, 0, none⟩)] w fun e w' => e = .returned (.int .i64 S.run) ∧ w = w' := by
  obtain ⟨vr, qs, ⟨c0, c1, c2, c3, c4, c5, c6⟩, -, -, -⟩ := h.cells
  clear c1 c2 c3 c4 c5 h
  cases hd : S.dead with
  | false =>
    have HR : Hid (S.run = 0) := by show _ = _; simp [Ws.run, hd]
    rw [hd] at c6
    clear hd
    go_enter Tryd.func38, Tryd.ntmps38
    go_wp2_with fail
    go_ret
    exact ⟨by rw [HR.out]; rfl, rfl⟩
  | true =>
    have HR : Hid (S.run = 131) := by show _ = _; simp [Ws.run, hd]
    rw [hd] at c6
    clear hd
    go_enter Tryd.func38, Tryd.ntmps38
    go_wp2_with fail
    go_ret
    exact ⟨by rw [HR.out]; rfl, rfl⟩
set_option maxRecDepth 100000 in
set_option maxHeartbeats 2000000 in
theorem wruns_nil (w : World) :
    Calls Tryd.prog 38 #[.pointer none] w fun e w' => e = .returned (.int .i64 1) ∧ w = w' := by
  go_enter Tryd.func38, Tryd.ntmps38
  go_wp2_with fail
  go_ret
  exact ⟨rfl, rfl⟩
set_option maxRecDepth 100000 in
set_option maxHeartbeats 2000000 in
theorem wruns_zero (w : World) {g : Nat} (c0 : w.cell? ⟨g, 0, none⟩ = some (.pointer none)) :
    Calls Tryd.prog 38 #[.pointer (some ⟨g, 0, none⟩)] w fun e w' => e = .returned (.int .i64 1) ∧ w = w' := by
  go_enter Tryd.func38, Tryd.ntmps38
  go_wp2_with fail
  go_ret
  exact ⟨rfl, rfl⟩
def Ws.room (S : Ws) : Int := if S.dead = true then 0 else ((hlf S.n * 64 : Nat) : Int) - (S.len : Int)
set_option maxRecDepth 100000 in
set_option maxHeartbeats 4000000 in
theorem wRoom_any (w : World) {F : Nat → Prop} {B g gd : Nat} {S : Ws} (h : WlK w F B g gd S) (hn : S.dead = false → 1 ≤ S.n ∧ S.n ≤ 65536 ∧ S.len ≤ hlf S.n * 64) :
    Calls Tryd.prog 16 #[.pointer (some ⟨g, 0, none⟩)] w fun e w' => e = .returned (.int .i64 S.room) ∧ Below w.heap.size w w' := by
  have C1 := Lib.hid (wruns_any w h)
  have H := Lib.hid h
  obtain ⟨vr, qs, ⟨-, c1, c2, -, c4, -, -⟩, -, -, -⟩ := h.cells
  cases hd : S.dead with
  | true =>
    have HR : Hid (S.room = 0) := by show _ = _; simp [Ws.room, hd]
    have HU : Hid (S.run = 131) := by show _ = _; simp [Ws.run, hd]
    rw [HU.out] at C1
    clear hd h hn c1 c2 c4
    go_enter Tryd.func16, Tryd.ntmps16
    go_wp2_with fail
    refine C1.out.mono ?_
    rintro e w1 ⟨rfl, rfl⟩
    go_wp2_with fail
    go_ret
    exact ⟨by rw [HR.out]; rfl, Below.refl _ _⟩
  | false =>
    obtain ⟨hn1, hn2, hn3⟩ := hn hd
    have HU : Hid (S.run = 0) := by show _ = _; simp [Ws.run, hd]
    rw [HU.out] at C1
    obtain ⟨rm, hrm⟩ : ∃ rm, rm = hlf S.n * 64 := ⟨_, rfl⟩
    have hrb : rm ≤ 4194304 := by rw [hrm]; unfold hlf; omega
    have HR : Hid (S.room = (rm : Int) - (S.len : Int)) := by show _ = _; rw [hrm]; simp [Ws.room, hd]
    have CR := Lib.hid (fun W => wroom_any S.a S.n W hn1 (Nat.le_trans hn2 (by decide)))
    rw [← hrm] at CR hn3
    have w1 : IntKind.i64.wrap ((rm : Int) - (S.len : Int)) = (rm : Int) - (S.len : Int) := by rw [IntKind.wrap_i64]; omega
    unfold plV at CR
    have KX : Hid (∀ W, Below w.heap.size w W → W.cell? ⟨g, 1, none⟩ = some (.int .i64 (S.a : Int)) ∧ W.cell? ⟨g, 2, none⟩ = some (.int .i64 (S.n : Int)) ∧ W.cell? ⟨g, 4, none⟩ = some (.int .i64 (S.len : Int))) := fun W hW => by
      obtain ⟨-, -, ⟨-, d1, d2, -, d4, -, -⟩, -, -, -⟩ := (H.out.below hW).cells
      exact ⟨d1, d2, d4⟩
    clear hd h hn hn1 hn2 hn3 hrm hrb c1 c2 c4
    go_enter Tryd.func16, Tryd.ntmps16
    go_wp2_with fail
    refine C1.out.mono ?_
    rintro e w2 ⟨rfl, rfl⟩
    go_upto_region 3 with fail
    go_region_held3 (fun W => W.cell? ⟨g, 1, none⟩ = some (.int .i64 (S.a : Int)) ∧ W.cell? ⟨g, 2, none⟩ = some (.int .i64 (S.n : Int)) ∧ W.cell? ⟨g, 4, none⟩ = some (.int .i64 (S.len : Int)))
      (first | (with_reducible exact KX.out _ B1.out) | (with_reducible exact KX.out _ (Below.refl _ _).drew) | fail)
      (first
        | (go_at_call 39; refine (CR.out _).mono ?_; rintro e w3 ⟨rfl, hb⟩; have B1 := Lib.hid (((Below.refl w.heap.size w).drew).trans hb); clear hb)
        | fail)
    go_wp2_with fail
    go_ret
    exact ⟨by rw [HR.out]; rfl, B1.out⟩
/-- What Records answers. -/
def RcsR (l : List Rcd) (w : World) (e : Ending) (w' : World) : Prop := Below w.heap.size w w' ∧ ∃ v qs, e = .returned v ∧ ScS w' w.heap.size v qs ∧ qs.map (·.1) = l
def Ws.recs (S : Ws) : List Rcd := if S.dead = true then [] else S.L
set_option maxRecDepth 100000 in
set_option maxHeartbeats 4000000 in
theorem wRecords_any (w : World) {F : Nat → Prop} {B g gd : Nat} {S : Ws} (h : WlK w F B g gd S) :
    Calls Tryd.prog 22 #[.pointer (some ⟨g, 0, none⟩)] w (RcsR S.recs w) := by
  have C1 := Lib.hid (wruns_any w h)
  obtain ⟨vr, qs, ⟨-, -, -, -, -, c5, -⟩, -, hs, hq⟩ := h.cells
  cases hd : S.dead with
  | true =>
    have HR : Hid (S.recs = []) := by show _ = _; simp [Ws.recs, hd]
    have HU : Hid (S.run = 131) := by show _ = _; simp [Ws.run, hd]
    rw [HU.out] at C1
    clear hd h hs hq c5
    go_enter Tryd.func22, Tryd.ntmps22
    go_wp2_with fail
    refine C1.out.mono ?_
    rintro e w1 ⟨rfl, rfl⟩
    go_wp2_with fail
    go_ret
    exact ⟨Below.refl _ _, _, [], rfl, ⟨World.ownsRow_nil _ _ _ _, fun q hq => absurd hq (by simp)⟩, by rw [HR.out]; rfl⟩
  | false =>
    have HR : Hid (S.recs = S.L) := by show _ = _; simp [Ws.recs, hd]
    have HU : Hid (S.run = 0) := by show _ = _; simp [Ws.run, hd]
    rw [HU.out] at C1
    obtain ⟨A, c, rfl, hc, hr⟩ := hs.rw
    rw [hq] at hr
    have hln : qs.length = S.L.length := by rw [← hq, List.length_map]
    have CC := Lib.hid (wcopies_any A qs.length c w.heap.size S.L w hr (Nat.le_refl _) (by rw [hln]; exact h.few) (fun r hr => by
      rw [← hq] at hr
      obtain ⟨q, hq2, rfl⟩ := List.mem_map.1 hr
      exact (hs.2 q hq2).2))
    obtain ⟨m, hm⟩ : ∃ m, m = qs.length := ⟨_, rfl⟩
    rw [← hm] at CC c5
    clear hd h hs hq hr hc hln hm
    go_enter Tryd.func22, Tryd.ntmps22
    go_wp2_with fail
    refine C1.out.mono ?_
    rintro e w1 ⟨rfl, rfl⟩
    go_wp2_with (first
      | (go_at_call 47; refine CC.out.mono ?_; rintro e w2 ⟨hb2, b2, q2, rfl, hs2, hq2⟩; have S2 := Lib.hid hs2; have Q2 := Lib.hid hq2; have B2 := Lib.hid hb2; clear hs2 hq2 hb2)
      | fail)
    go_ret
    exact ⟨B2.out, _, q2, rfl, S2.out, by rw [HR.out]; exact Q2.out⟩
end Go.Proofs.YtahgaogmcffglaaDoor
