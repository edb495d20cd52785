/- What Encode of layer 3's reference returns. -/
import Derived.Test.YtlecbblmaadpiaaGreatDoorJCborR
import Derived.Test.YtlecbblmaadpiaaGreatDoorJCborS
import Derived.Test.YtlecbblmaadpiaaGreatDoorJCborU
import Derived.Test.YtlecbblmaadpiaaGreatDoorJCrcS
import Derived.Test.YtlecbblmaadpiaaGreatDoorJKCheck
import Derived.Test.YtlecbblmaadpiaaGreatDoorJKWrite
import Derived.Test.YtlecbblmaadpiaaGreatDoorJMask
import Derived.Test.YtlecbblmaadpiaaGreatDoorJOwn
import Derived.Deep.RegionHeld3
import Derived.Test.YtlecbblmaadpiaaGreatDoorRows
namespace Go.Proofs.YtlecbblmaadpiaaGreatDoor
open Go.RowKit
def GivesE (t : TypeId) (l : List UInt8) (c : Int) (w : World) (e : Ending) (w' : World) : Prop := ∃ v, e = .returned (.tuple #[v, .int .i64 c]) ∧ Ob w' w.heap.size t v l ∧ Below w.heap.size w w'
theorem box_cells {w w' : World} {c0 c1 c2 c3 : Value} {t : TypeId} (h : Below (w.heap.size + 1) (w.alloc (.cells #[c0, c1, c2, c3] t)) w') :
    w'.cell? ⟨w.heap.size, 0, none⟩ = some c0 ∧ w'.cell? ⟨w.heap.size, 1, none⟩ = some c1 ∧ w'.cell? ⟨w.heap.size, 2, none⟩ = some c2 ∧ w'.cell? ⟨w.heap.size, 3, none⟩ = some c3 :=
  ⟨(h.cell (p := ⟨w.heap.size, 0, none⟩) (Nat.lt_succ_self _)).trans (by simp), (h.cell (p := ⟨w.heap.size, 1, none⟩) (Nat.lt_succ_self _)).trans (by simp), (h.cell (p := ⟨w.heap.size, 2, none⟩) (Nat.lt_succ_self _)).trans (by simp), (h.cell (p := ⟨w.heap.size, 3, none⟩) (Nat.lt_succ_self _)).trans (by simp)⟩
theorem to_box {w w' : World} {o : Obj} (h : Below (w.alloc o).heap.size (w.alloc o) w') : Below (w.heap.size + 1) (w.alloc o) w' := h.mono (by simp)
set_option maxRecDepth 100000 in
set_option maxHeartbeats 2000000 in
theorem rencode_any (x : Itm) (v : Value) (w : World) (B : Nat) (hp : par x ≤ 1000000) (hg : hgt x ≤ 1001) (hlen : Fits x → (wri x).length ≤ 140737488355328) (hB : B ≤ w.heap.size) (h : RdI w B v x) :
    Calls Tryz.prog 89 #[v] w (GivesE 5 (enc x).1 (enc x).2 w) := by
  obtain ⟨k, n, d, l⟩ := x
  have HX := Lib.hid h
  obtain ⟨A, nd, cd, AL, cl, rfl, h1, h2, h3, h4, h5, h7⟩ := h.open
  generalize hX : Itm.mk k n d l = x at *
  clear hX
  have C1 := Lib.hid (fun W (hb : Below w.heap.size w W) => rright_n (par x + 1) x 1000 _ W B (Nat.lt_succ_self _) hg (by omega) (Nat.le_trans hB hb.size) (HX.out.below (hb.mono hB)))
  have C2 := Lib.hid (fun W (hb : Below w.heap.size w W) => rdepth_n (par x + 1) x _ W B (Nat.lt_succ_self _) hp (Nat.le_trans hB hb.size) (HX.out.below (hb.mono hB)))
  have C3 := Lib.hid (fun W (hb : Below w.heap.size w W) => rparts_n (par x + 1) x _ W B (Nat.lt_succ_self _) hp (Nat.le_trans hB hb.size) (HX.out.below (hb.mono hB)))
  have C4 := Lib.hid (fun W (hb : Below w.heap.size w W) (hr : right x = true) (hl : (wri x).length ≤ 140737488355328) => rwrite_n (par x + 1) x _ W B (Nat.lt_succ_self _) hr hl (Nat.le_trans hB hb.size) (HX.out.below (hb.mono hB)))
  have HLEN := Lib.hid hlen
  have hdp := dep_le x
  have B0 := Lib.hid ((Below.refl w.heap.size w).alloc (Nat.le_refl _) (.cells #[.int .i64 k, .int .u64 (n : Int), .slice A nd cd, .slice AL l.length cl] 30))
  generalize l.length = N at *
  clear h1 h4 h7 h hlen
  rcases hr : right x with _ | _
  · rw [show enc x = ([], 2) by unfold enc; rw [if_pos hr]]
    rw [hr] at C1
    clear hr
    go_enter Tryz.func89, Tryz.ntmps89
    go_wp2_with fail
    refine (C1.out _ B0.out).mono ?_
    rintro e w1 ⟨rfl, hb1⟩
    have HB1 := Lib.hid (B0.out.trans (hb1.mono B0.out.size))
    clear hb1
    go_wp2_with fail
    go_ret2
    exact ⟨_, rfl, Ob.nil_ _ _ _, HB1.out⟩
  · rw [hr] at C1
    have HR := Lib.hid hr
    clear hr
    obtain ⟨E1, hE1⟩ : ∃ q, q = (enc x).1 := ⟨_, rfl⟩
    obtain ⟨E2, hE2⟩ : ∃ q, q = (enc x).2 := ⟨_, rfl⟩
    rw [← hE1, ← hE2]
    have HE1 := Lib.hid hE1
    have HE2 := Lib.hid hE2
    clear hE1 hE2
    go_enter Tryz.func89, Tryz.ntmps89
    go_wp2_with fail
    refine (C1.out _ B0.out).mono ?_
    rintro e w1 ⟨rfl, hb1⟩
    have HB1 := Lib.hid (B0.out.trans (hb1.mono B0.out.size))
    have HC1 := Lib.hid (to_box hb1)
    obtain ⟨q0, q1, q2, q3⟩ := box_cells HC1.out
    clear hb1
    go_wp2_with fail
    refine (C2.out _ HB1.out).mono ?_
    rintro e w2 ⟨rfl, hb2⟩
    have HB2 := Lib.hid (HB1.out.trans (hb2.mono HB1.out.size))
    have HZ1 : Hid (w.heap.size + 1 ≤ w1.heap.size) := by show _ ≤ _; have := HC1.out.size; simpa using this
    have HC2 := Lib.hid (HC1.out.trans (hb2.mono HZ1.out))
    clear q0 q1 q2 q3 hb2
    obtain ⟨q0, q1, q2, q3⟩ := box_cells HC2.out
    by_cases hd8 : 8 < dep x
    · have hd8' : decide (8 < dep x) = true := decide_eq_true hd8
      have hd8i : decide ((8 : Int) < (dep x : Int)) = true := decide_eq_true (by omega)
      have he : enc x = ([], 32) := by unfold enc; rw [if_neg (by rw [HR.out]; decide), if_pos (.inl hd8)]
      have h1 := HE1.out
      have h2 := HE2.out
      rw [he] at h1 h2
      subst h1 h2
      clear he
      go_wp2_with fail
      go_ret2
      exact ⟨_, rfl, Ob.nil_ _ _ _, HB2.out⟩
    · have hd8' : decide (8 < dep x) = false := decide_eq_false hd8
      have hd8i : decide ((8 : Int) < (dep x : Int)) = false := decide_eq_false (by omega)
      go_wp2_with fail
      refine (C3.out _ HB2.out).mono ?_
      rintro e w3 ⟨rfl, hb3⟩
      have HB3 := Lib.hid (HB2.out.trans (hb3.mono HB2.out.size))
      have HZ2 : Hid (w.heap.size + 1 ≤ w2.heap.size) := by show _ ≤ _; have := HC2.out.size; simpa using this
      have HC3 := Lib.hid (HC2.out.trans (hb3.mono HZ2.out))
      clear q0 q1 q2 q3 hb3
      obtain ⟨q0, q1, q2, q3⟩ := box_cells HC3.out
      by_cases hp4 : 4096 < par x
      · have he : enc x = ([], 32) := by unfold enc; rw [if_neg (by rw [HR.out]; decide), if_pos (.inr hp4)]
        have h1 := HE1.out
        have h2 := HE2.out
        rw [he] at h1 h2
        subst h1 h2
        clear he
        go_wp2_with fail
        go_ret2
        exact ⟨_, rfl, Ob.nil_ _ _ _, HB3.out⟩
      · have hf : Fits x := ⟨HR.out, by omega, by omega⟩
        have he := enc_ok hf
        have h1 := HE1.out
        have h2 := HE2.out
        rw [he] at h1 h2
        have HL := Lib.hid (HLEN.out hf)
        have H1 := Lib.hid h1
        subst h2
        clear he hf h1
        go_wp2_with fail
        refine (C4.out _ HB3.out HR.out HL.out).mono ?_
        rintro e w4 ⟨v, rfl, ho, hb4⟩
        rw [← H1.out] at ho
        have HO := Lib.hid (ho.weak HB3.out.size)
        have HB4 := Lib.hid (HB3.out.trans (hb4.mono HB3.out.size))
        clear ho hb4 q0 q1 q2 q3
        go_wp2_with fail
        go_ret2
        exact ⟨_, rfl, HO.out, HB4.out⟩
end Go.Proofs.YtlecbblmaadpiaaGreatDoor
/- Items as calls make them: Uint, Text, Bytes of layer 3's reference; and Same, of two equal ones. -/
namespace Go.Proofs.YtlecbblmaadpiaaGreatDoor
open Go.RowKit
theorem Below.drew_ {B : Nat} {w : World} : Below B w w.drew := (Below.refl B w).drew
def GivesI (x : Itm) (w : World) (e : Ending) (w' : World) : Prop := ∃ v, e = .returned v ∧ RdI w' w'.heap.size v x ∧ Below w.heap.size w w'
theorem RdI.mk_uint {w : World} {B n : Nat} (hn : n < 18446744073709551616) : RdI w B (.agg #[.int .i64 0, .int .u64 (n : Int), .slice none 0 0, .slice none 0 0]) (.mk 0 n [] []) := by
  rw [RdI]
  exact ⟨none, 0, 0, none, 0, 0, rfl, by decide, hn, ⟨Nat.le_refl _, by decide⟩, Rd.nil_, ⟨Nat.le_refl _, by decide⟩, rfl, fun h => absurd h (Nat.lt_irrefl _)⟩
theorem RdI.mk_data {w : World} {B nd cd : Nat} {A : Option Addr} {d : List UInt8} {k : Int} (hk : (Lit.int .i64 k).wf = true) (hc : nd ≤ cd) (hc2 : nd ≤ 140737488355328) (h : Rd w B A nd d) : RdI w B (.agg #[.int .i64 k, .int .u64 0, .slice A nd cd, .slice none 0 0]) (.mk k 0 d []) := by
  rw [RdI]
  exact ⟨A, nd, cd, none, 0, 0, rfl, hk, by decide, ⟨hc, hc2⟩, h, ⟨Nat.le_refl _, by decide⟩, rfl, fun h => absurd h (Nat.lt_irrefl _)⟩
end Go.Proofs.YtlecbblmaadpiaaGreatDoor
/- Items as calls make them: Text and Bytes of layer 3's reference. -/
namespace Go.Proofs.YtlecbblmaadpiaaGreatDoor
open Go.RowKit
theorem zero_cells {w W' : World} (h : Below (w.heap.size + 1) (w.alloc (.cells #[.int .i64 0, .int .u64 0, .slice none 0 0, .slice none 0 0] 30)) W') :
    (W'.cell? ⟨w.heap.size, 0, none⟩ = some (.int .i64 0) ∧ W'.cell? ⟨w.heap.size, 1, none⟩ = some (.int .u64 0) ∧ W'.cell? ⟨w.heap.size, 2, none⟩ = some (.slice none 0 0) ∧ W'.cell? ⟨w.heap.size, 3, none⟩ = some (.slice none 0 0)) ∧
    (W'.frozen? ⟨w.heap.size, 0, none⟩ = false ∧ W'.frozen? ⟨w.heap.size, 1, none⟩ = false ∧ W'.frozen? ⟨w.heap.size, 2, none⟩ = false ∧ W'.frozen? ⟨w.heap.size, 3, none⟩ = false) :=
  ⟨box_cells h, (h.frozen (p := ⟨w.heap.size, 0, none⟩) (Nat.lt_succ_self _)).trans (by simp), (h.frozen (p := ⟨w.heap.size, 1, none⟩) (Nat.lt_succ_self _)).trans (by simp), (h.frozen (p := ⟨w.heap.size, 2, none⟩) (Nat.lt_succ_self _)).trans (by simp), (h.frozen (p := ⟨w.heap.size, 3, none⟩) (Nat.lt_succ_self _)).trans (by simp)⟩
theorem Rd.set4 {W' : World} {B n : Nat} {A : Option Addr} {l : List UInt8} {g : Nat} {u0 u1 u2 u3 : Value} (h : Rd W' B A n l) (hA : 0 < n → ∀ b o, A = some ⟨b, o, none⟩ → b ≠ g) :
    Rd ((((W'.setCell ⟨g, 0, none⟩ u0).setCell ⟨g, 1, none⟩ u1).setCell ⟨g, 2, none⟩ u2).setCell ⟨g, 3, none⟩ u3) B A n l :=
  ⟨h.1, fun hn => by
    obtain ⟨b, o, e, hb, hc⟩ := h.2 hn
    have hne := hA hn b o e
    refine ⟨b, o, e, hb, fun i hi => ?_⟩
    rw [World.cell?_setCell_far _ _ _ _ (fun h => hne h.symm), World.cell?_setCell_far _ _ _ _ (fun h => hne h.symm), World.cell?_setCell_far _ _ _ _ (fun h => hne h.symm), World.cell?_setCell_far _ _ _ _ (fun h => hne h.symm)]
    exact hc i hi⟩
theorem below_set4 {B g : Nat} {w W' : World} {u0 u1 u2 u3 : Value} (h : Below B w W') (hg : B ≤ g) : Below B w ((((W'.setCell ⟨g, 0, none⟩ u0).setCell ⟨g, 1, none⟩ u1).setCell ⟨g, 2, none⟩ u2).setCell ⟨g, 3, none⟩ u3) :=
  (((h.setCell (p := ⟨g, 0, none⟩) hg _).setCell (p := ⟨g, 1, none⟩) hg _).setCell (p := ⟨g, 2, none⟩) hg _).setCell (p := ⟨g, 3, none⟩) hg _
end Go.Proofs.YtlecbblmaadpiaaGreatDoor
/- The plain mathematics of layer 4: names in pieces, nodes' texts. No program's number stands here. -/
namespace Go.Proofs.YtlecbblmaadpiaaGreatDoor
open Go.Lib (decDigits)
end Go.Proofs.YtlecbblmaadpiaaGreatDoor
/- What Uint, Text and Bytes of layer 3 return; and bytes.Clone. -/
namespace Go.Proofs.YtlecbblmaadpiaaGreatDoor
open Go.RowKit
set_option maxRecDepth 100000 in
set_option maxHeartbeats 1000000 in
theorem bclone_any (A : Option Addr) (n c B : Nat) (l : List UInt8) (w : World) (hB : B ≤ w.heap.size) (h : Rd w B A n l) (hn : n ≤ 140737488355328) :
    Calls Tryz.prog 104 #[.slice A n c] w (GivesO 5 l w) := by
  have hl := h.1
  rcases A with _ | a
  · have h0 : n = 0 := by
      rcases Nat.eq_zero_or_pos n with h0 | h0
      · exact h0
      · obtain ⟨_, _, e, _⟩ := h.2 h0
        cases e
    subst h0
    have e : l = [] := List.eq_nil_of_length_eq_zero hl
    subst e
    have q22 := fun (W : World) (a : Option Addr) (n c : Nat) => Lib.run_eql_slice_nil (P := Tryz.prog) W 27 5 a n c 0 0 Tryz.underlying27
    go_enter Tryz.func104, Tryz.ntmps104
    go_wp2_with fail
    go_ret
    exact ⟨_, rfl, Ob.nil_ _ _ _, Below.refl _ _⟩
  · have HR := Lib.hid (h.alloc hB (.cells #[] 5))
    have HO := Lib.hid (show Ob (w.alloc (.cells #[] 5)) w.heap.size 5 (.slice (some ⟨w.heap.size, 0, none⟩) 0 0) [] from Ob.lit w [] #[] rfl (Nat.le_refl _) 0 rfl (by decide))
    have HN : Hid (([] : List UInt8).length + n ≤ 140737488355328) := by show _ ≤ _; simp; exact hn
    clear h hn hl hB
    have q22 := fun (W : World) (a : Option Addr) (n c : Nat) => Lib.run_eql_slice_nil (P := Tryz.prog) W 27 5 a n c 0 0 Tryz.underlying27
    go_enter Tryz.func104, Tryz.ntmps104
    go_wp2_with (first
      | (at_builtin; refine wpList_appB rfl (.tmp 5) (.tmp 6) 27 rfl w.heap.size 5 Tryz.underlying27 info_u8 _ [] rfl HO.out B (some a) n c l rfl HR.out HN.out (by simp) ?_; intro v1 w1 ho1 hb1; have O1 := Lib.hid ho1; have B1 := Lib.hid (((Below.refl w.heap.size w).alloc (Nat.le_refl _) _).trans hb1); clear ho1 hb1)
      | fail)
    go_ret
    exact ⟨_, rfl, by have := O1.out; rwa [List.nil_append] at this, B1.out⟩
set_option maxRecDepth 100000 in
set_option maxHeartbeats 1000000 in
theorem cuint_any (n : Nat) (w : World) (h : n < 18446744073709551616) :
    Calls Tryz.prog 115 #[.int .u64 (n : Int)] w (GivesI (.mk 0 n [] []) w) := by
  go_enter Tryz.func115, Tryz.ntmps115
  go_wp2_with fail
  have hr := fun W B => RdI.mk_uint (w := W) (B := B) (n := n) h
  exact bodyPost_ret (v := .agg #[.int .i64 0, .int .u64 (n : Int), .slice none 0 0, .slice none 0 0]) (by simp [results, Tryz.results115, go_sem]) rfl ⟨_, rfl, hr _ _, (Below.refl _ _).alloc (Nat.le_refl _) _⟩
set_option maxRecDepth 100000 in
set_option maxHeartbeats 1000000 in
theorem cbytes_any (A : Option Addr) (n c B : Nat) (l : List UInt8) (w : World) (hB : B ≤ w.heap.size) (h : Rd w B A n l) (hn : n ≤ 140737488355328) (_hc : n ≤ c) :
    Calls Tryz.prog 110 #[.slice A n c] w (GivesI (.mk 2 0 l []) w) := by
  have C1 := Lib.hid (bclone_any A n c B l (w.alloc (.cells #[.int .i64 0, .int .u64 0, .slice none 0 0, .slice none 0 0] 30)) (Nat.le_trans hB (le_alloc _ _)) (h.alloc hB _) hn)
  have HLN := Lib.hid h.1
  have HN := Lib.hid hn
  clear h hn hB
  go_enter Tryz.func110, Tryz.ntmps110
  go_wp2_with fail
  refine C1.out.mono ?_
  rintro e w1 ⟨v, rfl, ho, hb⟩
  have hb' := to_box hb
  obtain ⟨⟨z0, z1, z2, z3⟩, f0, f1, f2, f3⟩ := zero_cells hb'
  obtain ⟨A2, c2, rfl, hc2, hm2, hr2⟩ := ho.rdn HLN.out
  have HR2 := Lib.hid hr2
  have HO2 := Lib.hid ho
  have B1 := Lib.hid hb'
  clear ho hb hb' hr2
  go_wp2_with fail
  refine bodyPost_ret (v := .agg #[.int .i64 2, .int .u64 0, .slice A2 n c2, .slice none 0 0]) (by simp [results, Tryz.results110, go_sem, z0, z1, z2, z3]) rfl ⟨_, rfl, RdI.mk_data (by decide) hc2 HN.out ?_, ?_⟩
  · refine Rd.set4 (HR2.out.more (by simp [World.setCell])) (fun hn b o h => ?_)
    obtain ⟨g, cap, hv, hg, _, _⟩ := HO2.out.form (by rw [HLN.out]; exact hn)
    subst h
    cases hv
    simp at hg
    omega
  · exact below_set4 (((Below.refl _ _).alloc (Nat.le_refl _) _).trans (B1.out.mono (Nat.le_succ _))) (Nat.le_refl _)
end Go.Proofs.YtlecbblmaadpiaaGreatDoor
/- Text of layer 3. -/
namespace Go.Proofs.YtlecbblmaadpiaaGreatDoor
open Go.RowKit
end Go.Proofs.YtlecbblmaadpiaaGreatDoor
/- In the place of EidA where the whole of layer 3 lies in the dump (imports alone). -/
/- The reader of layer 3: its state in memory, and what its small calls return. The reader of layer 3: take, and what reads items without a list. -/
namespace Go.Proofs.YtlecbblmaadpiaaGreatDoor
open Go.RowKit
structure RSt (w : World) (g : Nat) (A : Option Addr) (n c : Nat) (bs : List UInt8) (i p d : Nat) : Prop where
  c0 : w.cell? ⟨g, 0, none⟩ = some (.slice A n c)
  c1 : w.cell? ⟨g, 1, none⟩ = some (.int .i64 (i : Int))
  c2 : w.cell? ⟨g, 2, none⟩ = some (.int .i64 (p : Int))
  c3 : w.cell? ⟨g, 3, none⟩ = some (.int .i64 (d : Int))
  f1 : w.frozen? ⟨g, 1, none⟩ = false
  f2 : w.frozen? ⟨g, 2, none⟩ = false
  f3 : w.frozen? ⟨g, 3, none⟩ = false
  rd : Rd w g A n bs
  hi : i ≤ n
  hn : n ≤ 140737488355328
  hc : n ≤ c
section
variable {w w' : World} {g n c i p d : Nat} {A : Option Addr} {bs : List UInt8}
theorem RSt.lt (h : RSt w g A n c bs i p d) : g < w.heap.size := World.block_lt_of_cell? w ⟨g, 0, none⟩ h.c0
theorem RSt.below {B : Nat} (h : RSt w g A n c bs i p d) (hb : Below B w w') (hg : g < B) : RSt w' g A n c bs i p d :=
  ⟨(hb.cell (p := ⟨g, 0, none⟩) hg).trans h.c0, (hb.cell (p := ⟨g, 1, none⟩) hg).trans h.c1, (hb.cell (p := ⟨g, 2, none⟩) hg).trans h.c2, (hb.cell (p := ⟨g, 3, none⟩) hg).trans h.c3,
    (hb.frozen (p := ⟨g, 1, none⟩) hg).trans h.f1, (hb.frozen (p := ⟨g, 2, none⟩) hg).trans h.f2, (hb.frozen (p := ⟨g, 3, none⟩) hg).trans h.f3, h.rd.keep fun _ hq => hb.cell (Nat.lt_trans hq hg), h.hi, h.hn, h.hc⟩
theorem RSt.alloc (h : RSt w g A n c bs i p d) (o : Obj) : RSt (w.alloc o) g A n c bs i p d := h.below ((Below.refl _ _).alloc (Nat.le_refl _) o) h.lt
theorem RSt.drew (h : RSt w g A n c bs i p d) : RSt w.drew g A n c bs i p d := ⟨h.c0, h.c1, h.c2, h.c3, h.f1, h.f2, h.f3, h.rd, h.hi, h.hn, h.hc⟩
theorem cell_set_ne {w : World} {g j k : Nat} {v u : Value} (h : j ≠ k) (hc : w.cell? ⟨g, k, none⟩ = some u) : (w.setCell ⟨g, j, none⟩ v).cell? ⟨g, k, none⟩ = some u := by
  rw [World.cell?_setCell_other _ _ _ _ (fun e => by injection e with _ e2; exact h e2)]
  exact hc
theorem RSt.byte (h : RSt w g A n c bs i p d) (hl : i < n) : ∃ (b o : Nat) (x : UInt8), A = some ⟨b, o, none⟩ ∧ w.cell? ⟨b, o + i, none⟩ = some (.int .u8 (x.toNat : Int)) ∧ bs.drop i = x :: bs.drop (i + 1) ∧ b < g := by
  obtain ⟨b, o, e, hb, hc⟩ := h.rd.2 (by omega)
  have hlen := h.rd.1
  refine ⟨b, o, bs.getD i 0, e, hc i hl, ?_, hb⟩
  rw [List.drop_eq_getElem_cons (by omega)]
  simp [List.getD, show i < bs.length by omega]
end
theorem below_drewN (B : Nat) (w : World) (k : Nat) : Below B w (w.drewN k) := ⟨rfl, rfl, rfl, Nat.le_refl _, fun _ _ => rfl⟩
theorem RSt.drewN {w : World} {g n c i p d : Nat} {A : Option Addr} {bs : List UInt8} (h : RSt w g A n c bs i p d) (k : Nat) : RSt (w.drewN k) g A n c bs i p d := h.below (below_drewN _ _ _) h.lt
section
variable {w : World} {g n c i p d : Nat} {A : Option Addr} {bs : List UInt8}
def set4 (w : World) (b : Nat) (u0 u1 u2 u3 : Value) : World := (((w.setCell ⟨b, 0, none⟩ u0).setCell ⟨b, 1, none⟩ u1).setCell ⟨b, 2, none⟩ u2).setCell ⟨b, 3, none⟩ u3
theorem set4_heap {b k : Nat} {u0 u1 u2 u3 : Value} (h : k ≠ b) : (set4 w b u0 u1 u2 u3).heap[k]? = w.heap[k]? := by
  unfold set4
  rw [Below.heap_setCell _ _ _ _ h, Below.heap_setCell _ _ _ _ h, Below.heap_setCell _ _ _ _ h, Below.heap_setCell _ _ _ _ h]
theorem set4_size {b : Nat} {u0 u1 u2 u3 : Value} : (set4 w b u0 u1 u2 u3).heap.size = w.heap.size := by simp [set4, World.setCell]
theorem set4_below {w0 : World} {B b : Nat} {u0 u1 u2 u3 : Value} (h : Below B w0 w) (hb : B ≤ b) : Below B w0 (set4 w b u0 u1 u2 u3) := below_set4 h hb
theorem RSt.set4 {b : Nat} {u0 u1 u2 u3 : Value} (h : RSt w g A n c bs i p d) (hb : g < b) : RSt (set4 w b u0 u1 u2 u3) g A n c bs i p d :=
  h.below (B := b) (set4_below (Below.refl _ _) (Nat.le_refl _)) hb
theorem RdI.fin {b lo lo' : Nat} {u0 u1 u2 u3 v : Value} {x : Itm} {B : Nat} (h : RdI (mask (lows lo) w) B v x) (hB : B ≤ w.heap.size) (hb : b < lo) (hl : lo' ≤ lo) : RdI (mask (lows lo') (Go.Proofs.YtlecbblmaadpiaaGreatDoor.set4 w b u0 u1 u2 u3)) (Go.Proofs.YtlecbblmaadpiaaGreatDoor.set4 w b u0 u1 u2 u3).heap.size v x :=
  h.mask_go (by rw [set4_size]; exact hB) (fun k _ hk => set4_heap (by have := lows_f.1 hk; omega)) (fun k _ hk => lows_f.2 (Nat.le_trans hl (lows_f.1 hk)))
theorem Ob.news {base m cp : Nat} {t : TypeId} {A : Option Addr} {l : List UInt8} (h : Ob w base t (.slice A m cp) l) : Rd (mask (lows base) w) w.heap.size A m l := by
  obtain ⟨hl, hr, hc, hm⟩ := h.rd_
  refine ⟨hl, fun h0 => ?_⟩
  obtain ⟨gg, cap, hv, hb, hlt, _⟩ := h.form (by omega)
  injection hv with h1 h2 h3
  subst h1
  obtain ⟨b, o, e, hbb, hcell⟩ := hr.2 h0
  injection e with e
  injection e with e1 e2
  subst e1 e2
  exact ⟨gg, 0, rfl, hlt, fun j hj => (mask_cell (lows_f.2 hb)).trans (hcell j hj)⟩
theorem RdI.bare {w' : World} {B B' m : Nat} {k : Int} {v : Value} (h : RdI w B v (.mk k m [] [])) : RdI w' B' v (.mk k m [] []) := by
  rw [RdI] at h ⊢
  obtain ⟨A, nd, cd, AL, nl, cl, e, h1, h2, h3, h4, h5, h6, _⟩ := h
  have hd : nd = 0 := h4.1.symm
  have hl : nl = 0 := h6.symm
  subst hd hl
  exact ⟨A, 0, cd, AL, 0, cl, e, h1, h2, h3, Rd.nil_, h5, rfl, fun h => absurd h (Nat.lt_irrefl _)⟩
end
end Go.Proofs.YtlecbblmaadpiaaGreatDoor
/- What Encode of layer 3 returns. -/
namespace Go.Proofs.YtlecbblmaadpiaaGreatDoor
open Go.RowKit
end Go.Proofs.YtlecbblmaadpiaaGreatDoor
/- What Uint and Text of layer 3 return, with nothing in it that is read below a block lo; an item stored into cells of one's own. -/
namespace Go.Proofs.YtlecbblmaadpiaaGreatDoor
open Go.RowKit
def GivesL (lo : Nat) (x : Itm) (w : World) (e : Ending) (w' : World) : Prop := ∃ v, e = .returned v ∧ RdI (mask (lows lo) w') w'.heap.size v x ∧ Below w.heap.size w w'
theorem Rd.mask_one {w : World} {lo B n b o : Nat} {l : List UInt8} (h : Rd w B (some ⟨b, o, none⟩) n l) (hb : lo ≤ b) : Rd (mask (lows lo) w) B (some ⟨b, o, none⟩) n l :=
  ⟨h.1, fun hn => by
    obtain ⟨b', o', e, hB, hc⟩ := h.2 hn
    injection e with e
    injection e with e1 e2
    subst e1 e2
    exact ⟨b, o, rfl, hB, fun i hi => (mask_cell (lows_f.2 hb)).trans (hc i hi)⟩⟩
theorem RdI.put4 {W : World} {B B' g lo lo' : Nat} {v : Value} {x : Itm} {u0 u1 u2 u3 : Value} (h : RdI (mask (lows lo) W) B v x) (hl : lo' ≤ lo) (hg : g < lo) (hB : B ≤ B') :
    RdI (mask (lows lo') ((((W.setCell ⟨g, 0, none⟩ u0).setCell ⟨g, 1, none⟩ u1).setCell ⟨g, 2, none⟩ u2).setCell ⟨g, 3, none⟩ u3)) B' v x :=
  h.sub hB fun q u _ hc => by
    have h1 := lows_f.1 (mask_out hc)
    have hq : ¬ g = q.block := by omega
    rw [mask_cell (lows_f.2 (by omega)), World.cell?_setCell_far _ _ _ _ hq, World.cell?_setCell_far _ _ _ _ hq, World.cell?_setCell_far _ _ _ _ hq, World.cell?_setCell_far _ _ _ _ hq]
    exact mask_sub hc
theorem RdI.grow {W W' : World} {lo lo' : Nat} {v : Value} {x : Itm} (h : RdI (mask (lows lo) W) W.heap.size v x) (hb : Below W.heap.size W W') (hl : lo' ≤ lo) : RdI (mask (lows lo') W') W'.heap.size v x :=
  h.sub hb.size fun q u hp hc => by
    have h1 := lows_f.1 (mask_out hc)
    rw [mask_cell (lows_f.2 (by omega)), hb.cell hp]
    exact mask_sub hc
theorem size_put4 {W : World} {g : Nat} {u0 u1 u2 u3 : Value} : ((((W.setCell ⟨g, 0, none⟩ u0).setCell ⟨g, 1, none⟩ u1).setCell ⟨g, 2, none⟩ u2).setCell ⟨g, 3, none⟩ u3).heap.size = W.heap.size := by simp [World.setCell]
theorem zero4 {w W' : World} {g : Nat} (hg : g = w.heap.size) (h : Below (g + 1) (w.alloc (.cells #[.int .i64 0, .int .u64 0, .slice none 0 0, .slice none 0 0] 30)) W') :
    (W'.cell? ⟨g, 0, none⟩ = some (.int .i64 0) ∧ W'.cell? ⟨g, 1, none⟩ = some (.int .u64 0) ∧ W'.cell? ⟨g, 2, none⟩ = some (.slice none 0 0) ∧ W'.cell? ⟨g, 3, none⟩ = some (.slice none 0 0)) ∧
    (W'.frozen? ⟨g, 0, none⟩ = false ∧ W'.frozen? ⟨g, 1, none⟩ = false ∧ W'.frozen? ⟨g, 2, none⟩ = false ∧ W'.frozen? ⟨g, 3, none⟩ = false) := by
  subst hg
  exact zero_cells h
set_option maxRecDepth 100000 in
set_option maxHeartbeats 1000000 in
theorem cuintL_any (lo n : Nat) (w : World) (h : n < 18446744073709551616) :
    Calls Tryz.prog 115 #[.int .u64 (n : Int)] w (GivesL lo (.mk 0 n [] []) w) := by
  go_enter Tryz.func115, Tryz.ntmps115
  go_wp2_with fail
  have hr := fun W B => RdI.mk_uint (w := W) (B := B) (n := n) h
  exact bodyPost_ret (v := .agg #[.int .i64 0, .int .u64 (n : Int), .slice none 0 0, .slice none 0 0]) (by simp [results, Tryz.results115, go_sem]) rfl ⟨_, rfl, hr _ _, (Below.refl _ _).alloc (Nat.le_refl _) _⟩
set_option maxRecDepth 100000 in
set_option maxHeartbeats 1000000 in
theorem ctextL_any (lo : Nat) (s : ByteArray) (w : World) (hlo : lo ≤ w.heap.size) (hs : s.size ≤ 140737488355328) :
    Calls Tryz.prog 150 #[.string s] w (GivesL lo (.mk 3 0 s.data.toList []) w) := by
  obtain ⟨c, W', hrun, hrd, hc, hb, hz⟩ := conv_bytes (w.alloc (.cells #[.int .i64 0, .int .u64 0, .slice none 0 0, .slice none 0 0] 30)) s
  have hz1 : (w.alloc (.cells #[.int .i64 0, .int .u64 0, .slice none 0 0, .slice none 0 0] 30)).heap.size = w.heap.size + 1 := by simp
  rw [hz1] at hrun hrd hb hz
  obtain ⟨⟨z0, z1, z2, z3⟩, f0, f1, f2, f3⟩ := zero_cells hb
  have HRD := Lib.hid hrd
  have HB := Lib.hid hb
  have HZ := Lib.hid hz
  have HS := Lib.hid hs
  have HLO := Lib.hid hlo
  clear hrd hb hz hz1 hs hlo
  go_enter Tryz.func150, Tryz.ntmps150
  go_wp2_with fail
  have hsz4 : ((((W'.setCell ⟨w.heap.size, 0, none⟩ (.int .i64 3)).setCell ⟨w.heap.size, 1, none⟩ (.int .u64 0)).setCell ⟨w.heap.size, 2, none⟩ (.slice (some ⟨w.heap.size + 1, 0, none⟩) s.size c)).setCell ⟨w.heap.size, 3, none⟩ (.slice none 0 0)).heap.size = W'.heap.size := by simp [World.setCell]
  refine bodyPost_ret (v := .agg #[.int .i64 3, .int .u64 0, .slice (some ⟨w.heap.size + 1, 0, none⟩) s.size c, .slice none 0 0]) (by simp [results, Tryz.results150, go_sem, z0, z1, z2, z3]) rfl ⟨_, rfl, RdI.mk_data (by decide) hc HS.out (Rd.mask_one ?_ (Nat.le_trans HLO.out (Nat.le_succ _))), ?_⟩
  · rw [hsz4, HZ.out]
    exact HRD.out.set4 (fun _ b o h => (by cases h; omega))
  · exact below_set4 (((Below.refl _ _).alloc (Nat.le_refl _) _).trans (HB.out.mono (Nat.le_succ _))) (Nat.le_refl _)
end Go.Proofs.YtlecbblmaadpiaaGreatDoor
/- Text of the reference of layer 3. -/
namespace Go.Proofs.YtlecbblmaadpiaaGreatDoor
open Go.RowKit
end Go.Proofs.YtlecbblmaadpiaaGreatDoor
