/- What Encode of layer 3's reference returns. -/
import Derived.Test.YtoggkjoadiombaaGreatDoorJCborM
import Derived.Test.YtoggkjoadiombaaGreatDoorJCborS
import Derived.Test.YtoggkjoadiombaaGreatDoorJCborU
import Derived.Test.YtoggkjoadiombaaGreatDoorJKCheck
import Derived.Test.YtoggkjoadiombaaGreatDoorJMask
import Derived.Deep.RegionHeld3
import Derived.Laws.IdiomStrings
import Derived.Deep.AppendLies
import Derived.Test.YtoggkjoadiombaaGreatDoorRows
import Derived.Below
import Derived.BigCall
import Derived.BigGuard
import Derived.BigGuardPart
import Derived.BigQuiet
import Derived.Deep.DeepCutAuto
import Derived.Deep.DeepFit
import Derived.Deep.Draws
import Derived.Deep.OwnRows
import Derived.Deep.QuietTactic
import Derived.Laws.AppendOwn
import Derived.Laws.BitsAllLaws
import Derived.Laws.BytesArg
import Derived.Laws.NewBlocks
import Derived.Laws.Strings3
import Derived.Lib.EndianBits
import Derived.Lib.HexFns
import Derived.Lib.Hide
import Derived.Lib.ItoaNum
import Derived.Lib.SlBytesConst
import Derived.Lib.Strings
import Derived.Lib.Walk
import Derived.Outline
import Derived.WalkKit
import Derived.WalkLawsBesides
namespace Go.Proofs.YtoggkjoadiombaaGreatDoor
open Go.RowKit
theorem box_cells {w w' : World} {c0 c1 c2 c3 : Value} {t : TypeId} (h : Below (w.heap.size + 1) (w.alloc (.cells #[c0, c1, c2, c3] t)) w') :
    w'.cell? ⟨w.heap.size, 0, none⟩ = some c0 ∧ w'.cell? ⟨w.heap.size, 1, none⟩ = some c1 ∧ w'.cell? ⟨w.heap.size, 2, none⟩ = some c2 ∧ w'.cell? ⟨w.heap.size, 3, none⟩ = some c3 :=
  ⟨(h.cell (p := ⟨w.heap.size, 0, none⟩) (Nat.lt_succ_self _)).trans (by simp), (h.cell (p := ⟨w.heap.size, 1, none⟩) (Nat.lt_succ_self _)).trans (by simp), (h.cell (p := ⟨w.heap.size, 2, none⟩) (Nat.lt_succ_self _)).trans (by simp), (h.cell (p := ⟨w.heap.size, 3, none⟩) (Nat.lt_succ_self _)).trans (by simp)⟩
theorem to_box {w w' : World} {o : Obj} (h : Below (w.alloc o).heap.size (w.alloc o) w') : Below (w.heap.size + 1) (w.alloc o) w' := h.mono (by simp)
end Go.Proofs.YtoggkjoadiombaaGreatDoor
/- Items as calls make them: Uint, Text, Bytes of layer 3's reference; and Same, of two equal ones. -/
namespace Go.Proofs.YtoggkjoadiombaaGreatDoor
open Go.RowKit
theorem Below.drew_ {B : Nat} {w : World} : Below B w w.drew := (Below.refl B w).drew
def GivesI (x : Itm) (w : World) (e : Ending) (w' : World) : Prop := ∃ v, e = .returned v ∧ RdI w' w'.heap.size v x ∧ Below w.heap.size w w'
theorem RdI.mk_uint {w : World} {B n : Nat} (hn : n < 18446744073709551616) : RdI w B (.agg #[.int .i64 0, .int .u64 (n : Int), .slice none 0 0, .slice none 0 0]) (.mk 0 n [] []) := by
  rw [RdI]
  exact ⟨none, 0, 0, none, 0, 0, rfl, by decide, hn, ⟨Nat.le_refl _, by decide⟩, Rd.nil_, ⟨Nat.le_refl _, by decide⟩, rfl, fun h => absurd h (Nat.lt_irrefl _)⟩
theorem RdI.mk_data {w : World} {B nd cd : Nat} {A : Option Addr} {d : List UInt8} {k : Int} (hk : (Lit.int .i64 k).wf = true) (hc : nd ≤ cd) (hc2 : nd ≤ 140737488355328) (h : Rd w B A nd d) : RdI w B (.agg #[.int .i64 k, .int .u64 0, .slice A nd cd, .slice none 0 0]) (.mk k 0 d []) := by
  rw [RdI]
  exact ⟨A, nd, cd, none, 0, 0, rfl, hk, by decide, ⟨hc, hc2⟩, h, ⟨Nat.le_refl _, by decide⟩, rfl, fun h => absurd h (Nat.lt_irrefl _)⟩
end Go.Proofs.YtoggkjoadiombaaGreatDoor
/- '[]byte(s)' of a string that is no constant: a new slice that reads as its bytes. -/
namespace Go.Proofs.YtoggkjoadiombaaGreatDoor
open Go.RowKit
theorem conv_bytes (W : World) (s : ByteArray) : ∃ (c : Nat) (W' : World), (convert 9 35 (.string s)).run Tryz.prog W = .ok (.slice (some ⟨W.heap.size, 0, none⟩) s.size c) W' ∧
    Rd W' (W.heap.size + 1) (some ⟨W.heap.size, 0, none⟩) s.size s.data.toList ∧ s.size ≤ c ∧ Below W.heap.size W W' ∧ W'.heap.size = W.heap.size + 1 := by
  refine ⟨_, _, run_bytes_of_string W _ _ 5 s Tryz.underlying9 Tryz.underlying35 Tryz.underlying5, ⟨by simp, fun _ => ⟨_, 0, rfl, Nat.lt_succ_self _, fun i hi => ?_⟩⟩, ?_, ?_, ?_⟩
  · rw [Nat.zero_add]
    have h := World.cell?_alloc_mark W.drew (bytesRow s (grownCap W s.size 0 5)) 5 ((bytesRow s (grownCap W s.size 0 5)).size, (bytesRow s (grownCap W s.size 0 5)).size + 1) i
    refine Eq.trans h ?_
    have hi' : i < s.data.size := hi
    unfold bytesRow
    rw [Array.getElem?_append_left (by simpa using hi')]
    simp only [Array.getElem?_map, Array.getElem?_eq_getElem hi', Option.map_some, List.getD, Array.getElem?_toList, Option.getD_some]
  · exact grownCap_ge W s.size 0 _
  · exact ((Below.refl W.heap.size W).drew).alloc (Nat.le_refl _) _
  · simp
end Go.Proofs.YtoggkjoadiombaaGreatDoor
/- Items as calls make them: Text and Bytes of layer 3's reference. -/
namespace Go.Proofs.YtoggkjoadiombaaGreatDoor
open Go.RowKit
theorem zero_cells {w W' : World} (h : Below (w.heap.size + 1) (w.alloc (.cells #[.int .i64 0, .int .u64 0, .slice none 0 0, .slice none 0 0] 92)) W') :
    (W'.cell? ⟨w.heap.size, 0, none⟩ = some (.int .i64 0) ∧ W'.cell? ⟨w.heap.size, 1, none⟩ = some (.int .u64 0) ∧ W'.cell? ⟨w.heap.size, 2, none⟩ = some (.slice none 0 0) ∧ W'.cell? ⟨w.heap.size, 3, none⟩ = some (.slice none 0 0)) ∧
    (W'.frozen? ⟨w.heap.size, 0, none⟩ = false ∧ W'.frozen? ⟨w.heap.size, 1, none⟩ = false ∧ W'.frozen? ⟨w.heap.size, 2, none⟩ = false ∧ W'.frozen? ⟨w.heap.size, 3, none⟩ = false) :=
  ⟨box_cells h, (h.frozen (p := ⟨w.heap.size, 0, none⟩) (Nat.lt_succ_self _)).trans (by simp), (h.frozen (p := ⟨w.heap.size, 1, none⟩) (Nat.lt_succ_self _)).trans (by simp), (h.frozen (p := ⟨w.heap.size, 2, none⟩) (Nat.lt_succ_self _)).trans (by simp), (h.frozen (p := ⟨w.heap.size, 3, none⟩) (Nat.lt_succ_self _)).trans (by simp)⟩
theorem Rd.set4 {W' : World} {B n : Nat} {A : Option Addr} {l : List UInt8} {g : Nat} {u0 u1 u2 u3 : Value} (h : Rd W' B A n l) (hA : 0 < n → ∀ b o, A = some ⟨b, o, none⟩ → b ≠ g) :
    Rd ((((W'.setCell ⟨g, 0, none⟩ u0).setCell ⟨g, 1, none⟩ u1).setCell ⟨g, 2, none⟩ u2).setCell ⟨g, 3, none⟩ u3) B A n l :=
  ⟨h.1, fun hn => by
    obtain ⟨b, o, e, hb, hc⟩ := h.2 hn
    have hne := hA hn b o e
    refine ⟨b, o, e, hb, fun i hi => ?_⟩
    rw [World.cell?_setCell_far _ _ _ _ (fun h => hne h.symm), World.cell?_setCell_far _ _ _ _ (fun h => hne h.symm), World.cell?_setCell_far _ _ _ _ (fun h => hne h.symm), World.cell?_setCell_far _ _ _ _ (fun h => hne h.symm)]
    exact hc i hi⟩
theorem below_set4 {B g : Nat} {w W' : World} {u0 u1 u2 u3 : Value} (h : Below B w W') (hg : B ≤ g) : Below B w ((((W'.setCell ⟨g, 0, none⟩ u0).setCell ⟨g, 1, none⟩ u1).setCell ⟨g, 2, none⟩ u2).setCell ⟨g, 3, none⟩ u3) :=
  (((h.setCell (p := ⟨g, 0, none⟩) hg _).setCell (p := ⟨g, 1, none⟩) hg _).setCell (p := ⟨g, 2, none⟩) hg _).setCell (p := ⟨g, 3, none⟩) hg _
end Go.Proofs.YtoggkjoadiombaaGreatDoor
/- Array of layer 3's reference: items, copied. -/
namespace Go.Proofs.YtoggkjoadiombaaGreatDoor
open Go.RowKit
theorem RdIs.news {w : World} {B b : Nat} : ∀ {l : List Itm} {o : Nat}, RdIs w B b o l → ∃ cs : List Value, cs.length = l.length * 4 ∧ (∀ j u, cs[j]? = some u → w.cell? ⟨b, o + j, none⟩ = some u) ∧ (∀ u ∈ cs, u.oneCell' = true) ∧
    ∀ (W' : World) (B' b' o' : Nat), (∀ j u, cs[j]? = some u → W'.cell? ⟨b', o' + j, none⟩ = some u) → (∀ p : Addr, p.block < B → W'.cell? p = w.cell? p) → B ≤ B' → RdIs W' B' b' o' l
  | [], o, _ => ⟨[], rfl, fun j u h => (by simp at h), fun u h => (by cases h), fun W' B' b' o' _ _ _ => (by rw [RdIs]; trivial)⟩
  | x :: r, o, h => by
    rw [RdIs] at h
    obtain ⟨⟨c0, c1, c2, c3, g0, g1, g2, g3, gx⟩, hr⟩ := h
    obtain ⟨cs, h1, h2, h3, h4⟩ := RdIs.news hr
    obtain ⟨k, n, A, nd, cd, AL, nl, cl, e⟩ := gx.form
    have hone : c0.oneCell' = true ∧ c1.oneCell' = true ∧ c2.oneCell' = true ∧ c3.oneCell' = true := by
      injection e with e
      simp only [Array.mk.injEq, List.cons.injEq, and_true] at e
      obtain ⟨rfl, rfl, rfl, rfl⟩ := e
      exact ⟨rfl, rfl, rfl, rfl⟩
    refine ⟨c0 :: c1 :: c2 :: c3 :: cs, by simp [h1]; omega, ?_, ?_, ?_⟩
    · intro j u hj
      match j with
      | 0 => cases hj; exact g0
      | 1 => cases hj; exact g1
      | 2 => cases hj; exact g2
      | 3 => cases hj; exact g3
      | j + 4 =>
        have := h2 j u (by simpa using hj)
        rw [show o + (j + 4) = o + 4 + j by omega]
        exact this
    · intro u hu
      simp only [List.mem_cons] at hu
      rcases hu with rfl | rfl | rfl | rfl | hu
      · exact hone.1
      · exact hone.2.1
      · exact hone.2.2.1
      · exact hone.2.2.2
      · exact h3 u hu
    · intro W' B' b' o' hc hk hB
      rw [RdIs]
      refine ⟨⟨c0, c1, c2, c3, hc 0 c0 rfl, hc 1 c1 rfl, hc 2 c2 rfl, hc 3 c3 rfl, (gx.keep hk).more hB⟩, h4 W' B' b' (o' + 4) (fun j u hj => ?_) hk hB⟩
      have := hc (j + 4) u (by simpa using hj)
      rw [show o' + (j + 4) = o' + 4 + j by omega] at this
      exact this
theorem RdI.mk_list {w : World} {B b o n c : Nat} {l : List Itm} {k : Int} (hk : (Lit.int .i64 k).wf = true) (hc : n ≤ c) (hn : n ≤ 140737488355328) (hl : l.length = n) (hb : b < B) (h : RdIs w B b o l) : RdI w B (.agg #[.int .i64 k, .int .u64 0, .slice none 0 0, .slice (some ⟨b, o, none⟩) n c]) (.mk k 0 [] l) := by
  rw [RdI]
  exact ⟨none, 0, 0, some ⟨b, o, none⟩, n, c, rfl, hk, by decide, ⟨Nat.le_refl _, by decide⟩, Rd.nil_, ⟨hc, hn⟩, hl, fun _ => ⟨b, o, rfl, hb, h⟩⟩
theorem info_item : (Tryz.prog.info? 92).map (fun i => (i.zero, i.size, i.bytes)) = some (some (.agg #[.int .i64 0, .int .u64 0, .slice none 0 0, .slice none 0 0]), 4, 64) := by kernel_rfl
end Go.Proofs.YtoggkjoadiombaaGreatDoor
/- The plain mathematics of layer 4: names in pieces, nodes' texts. No program's number stands here. -/
namespace Go.Proofs.YtoggkjoadiombaaGreatDoor
open Go.Lib (decDigits)
end Go.Proofs.YtoggkjoadiombaaGreatDoor
/- What Uint, Text and Bytes of layer 3 return; and bytes.Clone. -/
namespace Go.Proofs.YtoggkjoadiombaaGreatDoor
open Go.RowKit
set_option maxRecDepth 100000 in
set_option maxHeartbeats 1000000 in
theorem bclone_any (A : Option Addr) (n c B : Nat) (l : List UInt8) (w : World) (hB : B ≤ w.heap.size) (h : Rd w B A n l) (hn : n ≤ 140737488355328) :
    Calls Tryz.prog 46 #[.slice A n c] w (GivesO 5 l w) := by
  have hl := h.1
  rcases A with _ | a
  · have h0 : n = 0 := by
      rcases Nat.eq_zero_or_pos n with h0 | h0
      · exact h0
      · obtain ⟨_, _, e, _⟩ := h.2 h0
        cases e
    subst h0
    have e : l = [] := List.eq_nil_of_length_eq_zero hl
    subst e
    have q22 := fun (W : World) (a : Option Addr) (n c : Nat) => Lib.run_eql_slice_nil (P := Tryz.prog) W 35 5 a n c 0 0 Tryz.underlying35
    go_enter Tryz.func46, Tryz.ntmps46
    go_wp2_with fail
    go_ret
    exact ⟨_, rfl, Ob.nil_ _ _ _, Below.refl _ _⟩
  · have HR := Lib.hid (h.alloc hB (.cells #[] 5))
    have HO := Lib.hid (show Ob (w.alloc (.cells #[] 5)) w.heap.size 5 (.slice (some ⟨w.heap.size, 0, none⟩) 0 0) [] from Ob.lit w [] #[] rfl (Nat.le_refl _) 0 rfl (by decide))
    have HN : Hid (([] : List UInt8).length + n ≤ 140737488355328) := by show _ ≤ _; simp; exact hn
    clear h hn hl hB
    have q22 := fun (W : World) (a : Option Addr) (n c : Nat) => Lib.run_eql_slice_nil (P := Tryz.prog) W 35 5 a n c 0 0 Tryz.underlying35
    go_enter Tryz.func46, Tryz.ntmps46
    go_wp2_with (first
      | (at_builtin; refine wpList_appB rfl (.tmp 5) (.tmp 6) 35 rfl w.heap.size 5 Tryz.underlying35 info_u8 _ [] rfl HO.out B (some a) n c l rfl HR.out HN.out (by simp) ?_; intro v1 w1 ho1 hb1; have O1 := Lib.hid ho1; have B1 := Lib.hid (((Below.refl w.heap.size w).alloc (Nat.le_refl _) _).trans hb1); clear ho1 hb1)
      | fail)
    go_ret
    exact ⟨_, rfl, by have := O1.out; rwa [List.nil_append] at this, B1.out⟩
set_option maxRecDepth 100000 in
set_option maxHeartbeats 1000000 in
theorem cuint_any (n : Nat) (w : World) (h : n < 18446744073709551616) :
    Calls Tryz.prog 88 #[.int .u64 (n : Int)] w (GivesI (.mk 0 n [] []) w) := by
  go_enter Tryz.func88, Tryz.ntmps88
  go_wp2_with fail
  have hr := fun W B => RdI.mk_uint (w := W) (B := B) (n := n) h
  exact bodyPost_ret (v := .agg #[.int .i64 0, .int .u64 (n : Int), .slice none 0 0, .slice none 0 0]) (by simp [results, Tryz.results88, go_sem]) rfl ⟨_, rfl, hr _ _, (Below.refl _ _).alloc (Nat.le_refl _) _⟩
end Go.Proofs.YtoggkjoadiombaaGreatDoor
/- Text of layer 3. -/
namespace Go.Proofs.YtoggkjoadiombaaGreatDoor
open Go.RowKit
end Go.Proofs.YtoggkjoadiombaaGreatDoor
/- In the place of EidA where the whole of layer 3 lies in the dump (imports alone). -/
/- The reader of layer 3: its state in memory, and what its small calls return. The reader of layer 3: take, and what reads items without a list. -/
namespace Go.Proofs.YtoggkjoadiombaaGreatDoor
open Go.RowKit
structure RSt (w : World) (g : Nat) (A : Option Addr) (n c : Nat) (bs : List UInt8) (i p d : Nat) : Prop where
  c0 : w.cell? ⟨g, 0, none⟩ = some (.slice A n c)
  c1 : w.cell? ⟨g, 1, none⟩ = some (.int .i64 (i : Int))
  c2 : w.cell? ⟨g, 2, none⟩ = some (.int .i64 (p : Int))
  c3 : w.cell? ⟨g, 3, none⟩ = some (.int .i64 (d : Int))
  f1 : w.frozen? ⟨g, 1, none⟩ = false
  f2 : w.frozen? ⟨g, 2, none⟩ = false
  f3 : w.frozen? ⟨g, 3, none⟩ = false
  rd : Rd w g A n bs
  hi : i ≤ n
  hn : n ≤ 140737488355328
  hc : n ≤ c
section
variable {w w' : World} {g n c i p d : Nat} {A : Option Addr} {bs : List UInt8}
theorem RSt.lt (h : RSt w g A n c bs i p d) : g < w.heap.size := World.block_lt_of_cell? w ⟨g, 0, none⟩ h.c0
theorem RSt.below {B : Nat} (h : RSt w g A n c bs i p d) (hb : Below B w w') (hg : g < B) : RSt w' g A n c bs i p d :=
  ⟨(hb.cell (p := ⟨g, 0, none⟩) hg).trans h.c0, (hb.cell (p := ⟨g, 1, none⟩) hg).trans h.c1, (hb.cell (p := ⟨g, 2, none⟩) hg).trans h.c2, (hb.cell (p := ⟨g, 3, none⟩) hg).trans h.c3,
    (hb.frozen (p := ⟨g, 1, none⟩) hg).trans h.f1, (hb.frozen (p := ⟨g, 2, none⟩) hg).trans h.f2, (hb.frozen (p := ⟨g, 3, none⟩) hg).trans h.f3, h.rd.keep fun _ hq => hb.cell (Nat.lt_trans hq hg), h.hi, h.hn, h.hc⟩
theorem RSt.alloc (h : RSt w g A n c bs i p d) (o : Obj) : RSt (w.alloc o) g A n c bs i p d := h.below ((Below.refl _ _).alloc (Nat.le_refl _) o) h.lt
theorem RSt.drew (h : RSt w g A n c bs i p d) : RSt w.drew g A n c bs i p d := ⟨h.c0, h.c1, h.c2, h.c3, h.f1, h.f2, h.f3, h.rd, h.hi, h.hn, h.hc⟩
theorem cell_set_ne {w : World} {g j k : Nat} {v u : Value} (h : j ≠ k) (hc : w.cell? ⟨g, k, none⟩ = some u) : (w.setCell ⟨g, j, none⟩ v).cell? ⟨g, k, none⟩ = some u := by
  rw [World.cell?_setCell_other _ _ _ _ (fun e => by injection e with _ e2; exact h e2)]
  exact hc
theorem Rd.setg {v : Value} {j : Nat} (h : Rd w g A n bs) : Rd (w.setCell ⟨g, j, none⟩ v) g A n bs :=
  h.keep fun q hq => World.cell?_setCell_far _ _ _ _ (by show g ≠ q.block; omega)
theorem RSt.set1 (h : RSt w g A n c bs i p d) {z : Int} (i' : Nat) (hz : z = (i' : Int)) (hi : i' ≤ n) : RSt (w.setCell ⟨g, 1, none⟩ (.int .i64 z)) g A n c bs i' p d := by
  subst hz
  exact ⟨cell_set_ne (by decide) h.c0, World.cell?_setCell_same _ _ _ h.c1, cell_set_ne (by decide) h.c2, cell_set_ne (by decide) h.c3, by simpa using h.f1, by simpa using h.f2, by simpa using h.f3, h.rd.setg, hi, h.hn, h.hc⟩
theorem RSt.set2 (h : RSt w g A n c bs i p d) {z : Int} (p' : Nat) (hz : z = (p' : Int)) : RSt (w.setCell ⟨g, 2, none⟩ (.int .i64 z)) g A n c bs i p' d := by
  subst hz
  exact ⟨cell_set_ne (by decide) h.c0, cell_set_ne (by decide) h.c1, World.cell?_setCell_same _ _ _ h.c2, cell_set_ne (by decide) h.c3, by simpa using h.f1, by simpa using h.f2, by simpa using h.f3, h.rd.setg, h.hi, h.hn, h.hc⟩
theorem RSt.set3 (h : RSt w g A n c bs i p d) {z : Int} (d' : Nat) (hz : z = (d' : Int)) : RSt (w.setCell ⟨g, 3, none⟩ (.int .i64 z)) g A n c bs i p d' := by
  subst hz
  exact ⟨cell_set_ne (by decide) h.c0, cell_set_ne (by decide) h.c1, cell_set_ne (by decide) h.c2, World.cell?_setCell_same _ _ _ h.c3, by simpa using h.f1, by simpa using h.f2, by simpa using h.f3, h.rd.setg, h.hi, h.hn, h.hc⟩
theorem RSt.byte (h : RSt w g A n c bs i p d) (hl : i < n) : ∃ (b o : Nat) (x : UInt8), A = some ⟨b, o, none⟩ ∧ w.cell? ⟨b, o + i, none⟩ = some (.int .u8 (x.toNat : Int)) ∧ bs.drop i = x :: bs.drop (i + 1) ∧ b < g := by
  obtain ⟨b, o, e, hb, hc⟩ := h.rd.2 (by omega)
  have hlen := h.rd.1
  refine ⟨b, o, bs.getD i 0, e, hc i hl, ?_, hb⟩
  rw [List.drop_eq_getElem_cons (by omega)]
  simp [List.getD, show i < bs.length by omega]
end
theorem below_drewN (B : Nat) (w : World) (k : Nat) : Below B w (w.drewN k) := ⟨rfl, rfl, rfl, Nat.le_refl _, fun _ _ => rfl⟩
set_option maxRecDepth 100000 in
set_option maxHeartbeats 1000000 in
theorem left_q {w : World} {g n c i p d : Nat} {A : Option Addr} {bs : List UInt8} (h : RSt w g A n c bs i p d) :
    Calls Tryz.prog 157 #[.pointer (some ⟨g, 0, none⟩)] w fun e w' => e = .returned (.int .u64 ((n - i : Nat) : Int)) ∧ ∃ m, w' = w.drewN m := by
  have g0 := h.c0
  have g1 := h.c1
  have hi := h.hi
  have hn := h.hn
  clear h
  have e : (n : Int) - (i : Int) = ((n - i : Nat) : Int) := by omega
  go_enter Tryz.func157, Tryz.ntmps157
  go_wp2_with fail
  go_quiet (fail)
  go_wp2_with fail
  go_ret
  exact ⟨rfl, nq, rfl⟩
theorem left_any {w : World} {g n c i p d : Nat} {A : Option Addr} {bs : List UInt8} (h : RSt w g A n c bs i p d) :
    Calls Tryz.prog 157 #[.pointer (some ⟨g, 0, none⟩)] w fun e w' => e = .returned (.int .u64 ((n - i : Nat) : Int)) ∧ Below w.heap.size w w' :=
  (left_q h).mono fun _ _ ⟨h1, _, h2⟩ => ⟨h1, h2 ▸ below_drewN _ _ _⟩
theorem RSt.drewN {w : World} {g n c i p d : Nat} {A : Option Addr} {bs : List UInt8} (h : RSt w g A n c bs i p d) (k : Nat) : RSt (w.drewN k) g A n c bs i p d := h.below (below_drewN _ _ _) h.lt
theorem and31 (X : Nat) (hx : X < 256) : bits BinOp.and IntKind.u8 (X : Int) 31 = ((X % 32 : Nat) : Int) := by
  have h := u8_and_nat X 31 hx (by decide)
  rw [show X &&& 31 = X % 32 from Nat.and_two_pow_sub_one_eq_mod X 5] at h
  exact h
set_option maxRecDepth 100000 in
set_option maxHeartbeats 1000000 in
theorem begins_any (x : UInt8) (w : World) :
    Calls Tryz.prog 142 #[.int .u8 (x.toNat : Int)] w fun e w' => e = .returned (.bool (arrB x)) ∧ w = w' := by
  have hx := x.toNat_lt
  have ha : arrB x = decide (x.toNat = 159 ∨ (x.toNat / 32 = 4 ∧ x.toNat % 32 ≤ 27)) := by
    unfold arrB
    have e : (x == 159) = decide (x.toNat = 159) := by
      by_cases h : x = 159
      · subst h; rfl
      · have : x.toNat ≠ 159 := fun e => h (UInt8.toNat_inj.1 e)
        simp [h, this]
    rw [e]
    have e2 : (x.toNat / 32 == 4) = decide (x.toNat / 32 = 4) := by by_cases h : x.toNat / 32 = 4 <;> simp [h]
    rw [e2]
    simp [Bool.decide_or, Bool.decide_and]
  obtain ⟨R, hR⟩ : ∃ q, q = arrB x := ⟨_, rfl⟩
  rw [← hR]
  rw [ha] at hR
  generalize x.toNat = X at *
  have HR := Lib.hid hR
  clear ha hR
  have hb := and31 X hx
  by_cases hk : X / 32 = 4
  · have hk2 : ((X : Int) / 32 != 4) = false := by simp; omega
    by_cases hl : X % 32 ≤ 27
    · have hl2 : (X : Int) % 32 ≤ 27 := by omega
      go_enter Tryz.func142, Tryz.ntmps142
      go_wp2_with fail
      go_ret
      exact ⟨by show Ending.returned (.bool true) = _; rw [HR.out]; simp; omega, rfl⟩
    · have hl2 : 27 < (X : Int) % 32 := by omega
      go_enter Tryz.func142, Tryz.ntmps142
      go_wp2_with fail
      go_ret
      refine ⟨?_, rfl⟩
      show Ending.returned (.bool ((X : Int) == 159)) = _
      rw [HR.out]
      by_cases h9 : X = 159
      · subst h9; rfl
      · rw [beq_eq_false_iff_ne.2 (by omega), decide_eq_false (by omega)]
  · have hk2 : ((X : Int) / 32 != 4) = true := by simp; omega
    go_enter Tryz.func142, Tryz.ntmps142
    go_wp2_with fail
    go_ret
    exact ⟨by show Ending.returned (.bool false) = _; rw [HR.out]; simp; omega, rfl⟩
def behV (x : UInt8) (g : Nat) : Value :=
  if 27 < x.toNat % 32 then .nilFunc else if x.toNat / 32 = 0 then .func (.func 158) #[.pointer (some ⟨g, 0, none⟩)] #[] else if x.toNat / 32 = 2 then .func (.func 159) #[.pointer (some ⟨g, 0, none⟩)] #[]
  else if x.toNat / 32 = 3 then .func (.func 160) #[.pointer (some ⟨g, 0, none⟩)] #[] else if x.toNat / 32 = 4 then .func (.func 161) #[.pointer (some ⟨g, 0, none⟩)] #[] else .nilFunc
set_option maxRecDepth 100000 in
set_option maxHeartbeats 1000000 in
theorem behind_any (x : UInt8) (g : Nat) (w : World) :
    Calls Tryz.prog 144 #[.pointer (some ⟨g, 0, none⟩), .int .u8 (x.toNat : Int)] w fun e w' => e = .returned (behV x g) ∧ w = w' := by
  have hx := x.toNat_lt
  unfold behV
  generalize x.toNat = X at *
  have hb := and31 X hx
  have hmf : ∀ (fn : Fn) (first cap : Array Value) (w : World), (Instr.makeFunc fn first cap).run Tryz.prog w = .ok (.func fn first cap) w := fun _ _ _ _ => rfl
  by_cases hl : 27 < X % 32
  · rw [if_pos hl]
    go_enter Tryz.func144, Tryz.ntmps144
    go_wp2_with fail
    go_ret
    exact ⟨rfl, rfl⟩
  rw [if_neg hl]
  by_cases h0 : X / 32 = 0
  · rw [if_pos h0]
    have k0 : ((X : Int) / 32 == 0) = true := by simp; omega
    go_enter Tryz.func144, Tryz.ntmps144
    go_wp2_with fail
    go_ret
    exact ⟨rfl, rfl⟩
  rw [if_neg h0]
  have k0 : ((X : Int) / 32 == 0) = false := by simp; omega
  by_cases h2 : X / 32 = 2
  · rw [if_pos h2]
    have k2 : ((X : Int) / 32 == 2) = true := by simp; omega
    go_enter Tryz.func144, Tryz.ntmps144
    go_wp2_with fail
    go_ret
    exact ⟨rfl, rfl⟩
  rw [if_neg h2]
  have k2 : ((X : Int) / 32 == 2) = false := by simp; omega
  by_cases h3 : X / 32 = 3
  · rw [if_pos h3]
    have k3 : ((X : Int) / 32 == 3) = true := by simp; omega
    go_enter Tryz.func144, Tryz.ntmps144
    go_wp2_with fail
    go_ret
    exact ⟨rfl, rfl⟩
  rw [if_neg h3]
  have k3 : ((X : Int) / 32 == 3) = false := by simp; omega
  by_cases h4 : X / 32 = 4
  · rw [if_pos h4]
    have k4 : ((X : Int) / 32 == 4) = true := by simp; omega
    go_enter Tryz.func144, Tryz.ntmps144
    go_wp2_with fail
    go_ret
    exact ⟨rfl, rfl⟩
  rw [if_neg h4]
  have k4 : ((X : Int) / 32 == 4) = false := by simp; omega
  go_enter Tryz.func144, Tryz.ntmps144
  go_wp2_with fail
  go_ret
  exact ⟨rfl, rfl⟩
theorem cut_3 {w : World} {B n i e : Nat} {A : Option Addr} {l : List UInt8} (c : Nat) (h : Rd w B A n l) (hi : i ≤ e) (he : e ≤ n) (hc : n ≤ c) (_hn : n ≤ 140737488355328) :
    ∃ A', (∀ W : World, (Instr.slice 35 (.slice A n c) (some (.int .i64 (i : Int))) (some (.int .i64 (e : Int))) (some (.int .i64 (e : Int)))).run Tryz.prog W = .ok (.slice A' (e - i) (e - i)) W) ∧ Rd w B A' (e - i) ((l.drop i).take (e - i)) := by
  have hz := size_u8
  have ht := Tryz.underlying35
  have hl := h.1
  by_cases hck : e = i
  · subst hck
    refine ⟨A, fun W => ?_, ?_⟩
    · go_simp
      intro hh
      omega
    · rw [Nat.sub_self, List.take_zero]; exact Rd.nil_
  · refine ⟨A.map (·.add i), fun W => ?_, h.cut.take (by omega)⟩
    go_simp
    intro hh
    omega
def noItem : Value := .agg #[.int .i64 0, .int .u64 0, .slice none 0 0, .slice none 0 0]
def flt (z : Int) : Value := .iface 159 (.agg #[.int .i64 z])
def GivesR (g : Nat) (A : Option Addr) (n c : Nat) (bs : List UInt8) (d : Nat) (r : Except Int (Itm × Nat × List UInt8)) (w : World) (e : Ending) (w' : World) : Prop :=
  match r with
  | .error z => e = .returned (.tuple #[noItem, flt z]) ∧ Only g w w'
  | .ok (x, p', l') => ∃ v i', e = .returned (.tuple #[v, .nilIface]) ∧ RdI (mask (lows w.heap.size) w') w'.heap.size v x ∧ RSt w' g A n c bs i' p' d ∧ bs.drop i' = l' ∧ Only g w w'
section
variable {w : World} {g n c i p d : Nat} {A : Option Addr} {bs : List UInt8}
set_option maxRecDepth 100000 in
set_option maxHeartbeats 1000000 in
theorem take_short (h : RSt w g A n c bs i p d) (k : Nat) (hk : n - i < k) :
    Calls Tryz.prog 162 #[.pointer (some ⟨g, 0, none⟩), .int .u64 (k : Int)] w fun e w' => e = .returned (.tuple #[.slice none 0 0, flt 30]) ∧ Below w.heap.size w w' := by
  have C1 := Lib.hid (left_any h)
  clear h
  go_enter Tryz.func162, Tryz.ntmps162
  go_wp2_with fail
  refine C1.out.mono ?_
  rintro e w1 ⟨rfl, hb⟩
  have HB := Lib.hid hb
  clear hb
  generalize n - i = m at *
  go_wp2_with fail
  go_ret2
  exact ⟨rfl, HB.out⟩
set_option maxRecDepth 100000 in
set_option maxHeartbeats 1000000 in
theorem take_ok (h : RSt w g A n c bs i p d) (k : Nat) (hk : k ≤ n - i) :
    Calls Tryz.prog 162 #[.pointer (some ⟨g, 0, none⟩), .int .u64 (k : Int)] w fun e w' => ∃ A', e = .returned (.tuple #[.slice A' k k, .nilIface]) ∧ Rd w' g A' k ((bs.drop i).take k) ∧ RSt w' g A n c bs (i + k) p d ∧ Only g w w' := by
  have C1 := Lib.hid (left_any h)
  have hi := h.hi
  have hn := h.hn
  obtain ⟨A', hrun, hrd⟩ := cut_3 c h.rd (Nat.le_add_right i k) (by omega) h.hc h.hn
  rw [Nat.add_sub_cancel_left] at hrun hrd
  have HRUN := Lib.hid hrun
  have HRD := Lib.hid hrd
  have HR := Lib.hid h
  clear hrun hrd h
  go_enter Tryz.func162, Tryz.ntmps162
  go_wp2_with fail
  refine C1.out.mono ?_
  rintro e w1 ⟨rfl, hb⟩
  have HS := Lib.hid (HR.out.below hb HR.out.lt)
  have HB := Lib.hid hb
  have g0 := HS.out.c0
  have g1 := HS.out.c1
  have f1 := HS.out.f1
  have hrun := HRUN.out
  have e1 : ((i : Int) + (k : Int)) = ((i + k : Nat) : Int) := by omega
  have hki : (k : Int) ≤ ((n - i : Nat) : Int) := by omega
  clear hb
  rw [← e1] at hrun
  clear e1
  go_wp2_with fail
  go_quiet (fail)
  have g1' : (w1.drewN nq).cell? ⟨g, 1, none⟩ = some (.int .i64 (i : Int)) := g1
  have f1' : (w1.drewN nq).frozen? ⟨g, 1, none⟩ = false := f1
  go_wp2_with fail
  go_ret2
  have hs : RSt (w1.drewN nq) g A n c bs i p d := HS.out.below (below_drewN _ _ _) HS.out.lt
  exact ⟨A', rfl, (HRD.out.keep fun q hq => (HB.out.mono (Nat.le_of_lt HR.out.lt)).cell hq).keep fun q hq => by rw [World.cell?_setCell_far _ _ _ _ (by show g ≠ q.block; omega)]; rfl,
    hs.set1 (i + k) (by omega) (by omega), ((Only.of_below HB.out).trans (Only.of_below (below_drewN _ _ _))).setCell (by rfl) _⟩
def set4 (w : World) (b : Nat) (u0 u1 u2 u3 : Value) : World := (((w.setCell ⟨b, 0, none⟩ u0).setCell ⟨b, 1, none⟩ u1).setCell ⟨b, 2, none⟩ u2).setCell ⟨b, 3, none⟩ u3
theorem set4_heap {b k : Nat} {u0 u1 u2 u3 : Value} (h : k ≠ b) : (set4 w b u0 u1 u2 u3).heap[k]? = w.heap[k]? := by
  unfold set4
  rw [Below.heap_setCell _ _ _ _ h, Below.heap_setCell _ _ _ _ h, Below.heap_setCell _ _ _ _ h, Below.heap_setCell _ _ _ _ h]
theorem set4_size {b : Nat} {u0 u1 u2 u3 : Value} : (set4 w b u0 u1 u2 u3).heap.size = w.heap.size := by simp [set4, World.setCell]
theorem set4_below {w0 : World} {B b : Nat} {u0 u1 u2 u3 : Value} (h : Below B w0 w) (hb : B ≤ b) : Below B w0 (set4 w b u0 u1 u2 u3) := below_set4 h hb
theorem set4_only {w0 : World} {b : Nat} {u0 u1 u2 u3 : Value} (h : Only g w0 w) (hb : w0.heap.size ≤ b) : Only g w0 (set4 w b u0 u1 u2 u3) :=
  ⟨h.os, h.tape, h.output, by rw [set4_size]; exact h.size, fun k hk hg => (set4_heap (by omega)).trans (h.block k hk hg)⟩
theorem RSt.set4 {b : Nat} {u0 u1 u2 u3 : Value} (h : RSt w g A n c bs i p d) (hb : g < b) : RSt (set4 w b u0 u1 u2 u3) g A n c bs i p d :=
  h.below (B := b) (set4_below (Below.refl _ _) (Nat.le_refl _)) hb
theorem RdI.fin {b lo lo' : Nat} {u0 u1 u2 u3 v : Value} {x : Itm} {B : Nat} (h : RdI (mask (lows lo) w) B v x) (hB : B ≤ w.heap.size) (hb : b < lo) (hl : lo' ≤ lo) : RdI (mask (lows lo') (Go.Proofs.YtoggkjoadiombaaGreatDoor.set4 w b u0 u1 u2 u3)) (Go.Proofs.YtoggkjoadiombaaGreatDoor.set4 w b u0 u1 u2 u3).heap.size v x :=
  h.mask_go (by rw [set4_size]; exact hB) (fun k _ hk => set4_heap (by have := lows_f.1 hk; omega)) (fun k _ hk => lows_f.2 (Nat.le_trans hl (lows_f.1 hk)))
theorem Ob.news {base m cp : Nat} {t : TypeId} {A : Option Addr} {l : List UInt8} (h : Ob w base t (.slice A m cp) l) : Rd (mask (lows base) w) w.heap.size A m l := by
  obtain ⟨hl, hr, hc, hm⟩ := h.rd_
  refine ⟨hl, fun h0 => ?_⟩
  obtain ⟨gg, cap, hv, hb, hlt, _⟩ := h.form (by omega)
  injection hv with h1 h2 h3
  subst h1
  obtain ⟨b, o, e, hbb, hcell⟩ := hr.2 h0
  injection e with e
  injection e with e1 e2
  subst e1 e2
  exact ⟨gg, 0, rfl, hlt, fun j hj => (mask_cell (lows_f.2 hb)).trans (hcell j hj)⟩
theorem RdI.bare {w' : World} {B B' m : Nat} {k : Int} {v : Value} (h : RdI w B v (.mk k m [] [])) : RdI w' B' v (.mk k m [] []) := by
  rw [RdI] at h ⊢
  obtain ⟨A, nd, cd, AL, nl, cl, e, h1, h2, h3, h4, h5, h6, _⟩ := h
  have hd : nd = 0 := h4.1.symm
  have hl : nl = 0 := h6.symm
  subst hd hl
  exact ⟨A, 0, cd, AL, 0, cl, e, h1, h2, h3, Rd.nil_, h5, rfl, fun h => absurd h (Nat.lt_irrefl _)⟩
theorem zero_only {W' : World} (h : Only g (w.alloc (.cells #[.int .i64 0, .int .u64 0, .slice none 0 0, .slice none 0 0] 92)) W') (hg : g < w.heap.size) :
    (W'.cell? ⟨w.heap.size, 0, none⟩ = some (.int .i64 0) ∧ W'.cell? ⟨w.heap.size, 1, none⟩ = some (.int .u64 0) ∧ W'.cell? ⟨w.heap.size, 2, none⟩ = some (.slice none 0 0) ∧ W'.cell? ⟨w.heap.size, 3, none⟩ = some (.slice none 0 0)) ∧
    (W'.frozen? ⟨w.heap.size, 0, none⟩ = false ∧ W'.frozen? ⟨w.heap.size, 1, none⟩ = false ∧ W'.frozen? ⟨w.heap.size, 2, none⟩ = false ∧ W'.frozen? ⟨w.heap.size, 3, none⟩ = false) := by
  have hb := h.block w.heap.size (by simp) (by omega)
  refine ⟨⟨?_, ?_, ?_, ?_⟩, ?_, ?_, ?_, ?_⟩
  · exact (World.cell?_of_block (w := w.alloc (.cells #[.int .i64 0, .int .u64 0, .slice none 0 0, .slice none 0 0] 92)) (a := ⟨w.heap.size, 0, none⟩) hb).trans (by simp)
  · exact (World.cell?_of_block (w := w.alloc (.cells #[.int .i64 0, .int .u64 0, .slice none 0 0, .slice none 0 0] 92)) (a := ⟨w.heap.size, 1, none⟩) hb).trans (by simp)
  · exact (World.cell?_of_block (w := w.alloc (.cells #[.int .i64 0, .int .u64 0, .slice none 0 0, .slice none 0 0] 92)) (a := ⟨w.heap.size, 2, none⟩) hb).trans (by simp)
  · exact (World.cell?_of_block (w := w.alloc (.cells #[.int .i64 0, .int .u64 0, .slice none 0 0, .slice none 0 0] 92)) (a := ⟨w.heap.size, 3, none⟩) hb).trans (by simp)
  · exact (World.frozen?_of_block (w := w.alloc (.cells #[.int .i64 0, .int .u64 0, .slice none 0 0, .slice none 0 0] 92)) (a := ⟨w.heap.size, 0, none⟩) hb).trans (by simp)
  · exact (World.frozen?_of_block (w := w.alloc (.cells #[.int .i64 0, .int .u64 0, .slice none 0 0, .slice none 0 0] 92)) (a := ⟨w.heap.size, 1, none⟩) hb).trans (by simp)
  · exact (World.frozen?_of_block (w := w.alloc (.cells #[.int .i64 0, .int .u64 0, .slice none 0 0, .slice none 0 0] 92)) (a := ⟨w.heap.size, 2, none⟩) hb).trans (by simp)
  · exact (World.frozen?_of_block (w := w.alloc (.cells #[.int .i64 0, .int .u64 0, .slice none 0 0, .slice none 0 0] 92)) (a := ⟨w.heap.size, 3, none⟩) hb).trans (by simp)
set_option maxRecDepth 100000 in
set_option maxHeartbeats 1000000 in
theorem uint_any (h : RSt w g A n c bs i p d) (m : Nat) (hm : m < 18446744073709551616) :
    Calls Tryz.prog 158 #[.pointer (some ⟨g, 0, none⟩), .int .u64 (m : Int)] w (GivesR g A n c bs d (.ok (.mk 0 m [] [], p, bs.drop i)) w) := by
  have C1 := Lib.hid (fun W => cuint_any m W hm)
  have HR := Lib.hid h
  clear h
  go_enter Tryz.func158, Tryz.ntmps158
  go_wp2_with fail
  refine (C1.out _).mono ?_
  rintro e w1 ⟨v, rfl, hv, hb⟩
  obtain ⟨k1, n1, A1, nd1, cd1, AL1, nl1, cl1, rfl⟩ := hv.form
  have HV := Lib.hid hv
  have hb' := to_box hb
  obtain ⟨⟨z0, z1, z2, z3⟩, f0, f1, f2, f3⟩ := zero_cells hb'
  have HB := Lib.hid (((Below.refl w.heap.size w).alloc (Nat.le_refl _) _).trans (hb'.mono (Nat.le_succ _)))
  clear hv hb hb'
  go_wp2_with fail
  refine bodyPost_ret (v := .tuple #[.agg #[.int .i64 k1, .int .u64 (n1 : Int), .slice A1 nd1 cd1, .slice AL1 nl1 cl1], .nilIface]) (by simp [results, Tryz.results158, go_sem, z0, z1, z2, z3]) rfl ?_
  exact ⟨_, i, rfl, HV.out.bare, (HR.out.below HB.out HR.out.lt).set4 HR.out.lt, rfl, set4_only (Only.of_below HB.out) (Nat.le_refl _)⟩
end
end Go.Proofs.YtoggkjoadiombaaGreatDoor
/- What write and writeAll of layer 3 return, of every right item: its bytes behind those that were there. -/
namespace Go.Proofs.YtoggkjoadiombaaGreatDoor
open Go.RowKit
structure Run (v : Value) (w : World) (v' : Value) (w' : World) : Prop where
  grown : w.grownBy w' v.ownBlock
  own : v'.ownBlock = v.ownBlock ∨ ∃ k, v'.ownBlock = some k ∧ w.heap.size ≤ k
section
variable {v v1 v2 : Value} {w w1 w2 : World} {base : Nat} {t : TypeId} {l : List UInt8}
theorem Run.refl (v : Value) (w : World) : Run v w v w := ⟨World.grownBy.refl w _, .inl rfl⟩
theorem Run.trans (h : Run v w v1 w1) (k : Run v1 w1 v2 w2) : Run v w v2 w2 := by
  refine ⟨⟨k.grown.os.trans h.grown.os, k.grown.tape.trans h.grown.tape, k.grown.output.trans h.grown.output, Nat.le_trans h.grown.size k.grown.size, fun i hi hne => ?_⟩, ?_⟩
  · refine (k.grown.block i (Nat.lt_of_lt_of_le hi h.grown.size) (fun e => ?_)).trans (h.grown.block i hi hne)
    rcases h.own with ho | ⟨q, ho, hq⟩
    · exact hne (e.trans ho)
    · rw [ho] at e; injection e with e; omega
  · rcases k.own with ko | ⟨q, ko, hq⟩
    · rcases h.own with ho | ⟨q, ho, hq⟩
      · exact .inl (ko.trans ho)
      · exact .inr ⟨q, ko.trans ho, hq⟩
    · exact .inr ⟨q, ko, Nat.le_trans h.grown.size hq⟩
theorem Run.quiet (h : Run v w v1 w1) (hb : Below w1.heap.size w1 w2) : Run v w v1 w2 :=
  h.trans ⟨⟨hb.os, hb.tape, hb.output, hb.size, fun k hk _ => hb.block k hk⟩, .inl rfl⟩
theorem Run.alloc (h : Run v w v1 w1) (o : Obj) : Run v w v1 (w1.alloc o) := h.quiet ((Below.refl _ _).alloc (Nat.le_refl _) o)
theorem Run.drew (h : Run v w v1 w1) : Run v w v1 w1.drew := h.quiet ((Below.refl _ _).drew)
theorem Run.below (h : Run v w v1 w1) (ho : Ob w base t v l) (hbase : base ≤ w.heap.size) : Below base w w1 :=
  ⟨h.grown.os, h.grown.tape, h.grown.output, h.grown.size, fun k hk => h.grown.block k (by omega) (fun e => by have := (World.ownsRow.lt ho k e.symm).1; omega)⟩
theorem Run.cell (h : Run v w v1 w1) {p : Addr} (hp : p.block < w.heap.size) (hne : v.ownBlock ≠ some p.block) : w1.cell? p = w.cell? p :=
  World.cell?_of_block (w := w) (h.grown.block p.block hp (fun e => hne e.symm))
theorem Run.ne (h : Run v w v1 w1) {k : Nat} (hk : k < w.heap.size) (hne : v.ownBlock ≠ some k) : v1.ownBlock ≠ some k := fun e => by
  rcases h.own with ho | ⟨q, ho, hq⟩
  · exact hne (ho.symm.trans e)
  · rw [ho] at e; injection e with e; omega
end
def GivesW (t : TypeId) (base : Nat) (vb : Value) (l : List UInt8) (w : World) (e : Ending) (w' : World) : Prop := ∃ v, e = .returned v ∧ Ob w' base t v l ∧ Run vb w v w'
def CWriteIH (m : Nat) : Prop := ∀ (x : Itm) (v vb : Value) (lb : List UInt8) (w : World) (base : Nat), par x < m → right x = true → lb.length + (wri x).length ≤ 140737488355328 → base ≤ w.heap.size → RdI w base v x → Ob w base 5 vb lb →
    Calls Tryz.prog 87 #[vb, v] w (GivesW 5 base vb (lb ++ wri x) w)
section
variable {P : Program} {w : World}
theorem wpList_appR {ops : Array Oper} {rest : List Oper} {o : Oper} {a : Act} {Q : Exit → Act → World → Prop} (hgd : o.guard = none) (s x : Operand) (t : TypeId)
    (ho : o.op = .call { callee := .builtin .append, args := #[s, x], argTypes := #[t, t] })
    (base : Nat) (e : TypeId) (ht : P.underlying t = some (.slice e)) (hinfo : (P.info? e).map (fun i => (i.zero, i.size, i.bytes)) = some (some (.int .u8 0), 1, 1))
    (v : Value) (l : List UInt8) (hs : a.eval s = v) (hown : Ob w base e v l) (B : Nat) (A : Option Addr) (m c : Nat) (news : List UInt8) (hx : a.eval x = .slice A m c) (hr : Rd w B A m news)
    (hbound : l.length + m ≤ 140737488355328) (hbase : base ≤ w.heap.size)
    (h : ∀ v' w', Ob w' base e v' (l ++ news) → Run v w v' w' → wpList P ops Q rest (a.put o.dst v') w') : wpList P ops Q (o :: rest) a w :=
  wpList_app hgd s x t ho base e ht hinfo v l hs hown B A m c news hx hr hbound hbase fun v' w' h1 h2 h3 =>
    h v' w' h1 ⟨h2, h3.imp id fun e => ⟨_, e, Nat.le_refl _⟩⟩
theorem step_appR {ops : Array Oper} {o : Oper} {a : Act} {K : Act → World → Prop} {Q : Exit → Act → World → Prop} {E : Prop} (hgd : o.guard = none) (s x : Operand) (t : TypeId)
    (ho : o.op = .call { callee := .builtin .append, args := #[s, x], argTypes := #[t, t] })
    (base : Nat) (e : TypeId) (ht : P.underlying t = some (.slice e)) (hinfo : (P.info? e).map (fun i => (i.zero, i.size, i.bytes)) = some (some (.int .u8 0), 1, 1))
    (v : Value) (l : List UInt8) (hs : a.eval s = v) (hown : Ob w base e v l) (B : Nat) (A : Option Addr) (m c : Nat) (news : List UInt8) (hx : a.eval x = .slice A m c) (hr : Rd w B A m news)
    (hbound : l.length + m ≤ 140737488355328) (hbase : base ≤ w.heap.size)
    (h : ∀ v' w', Ob w' base e v' (l ++ news) → Run v w v' w' → K (a.put o.dst v') w') : if Region.wanted o (yielded ops a.tmps) = true then Oper.wp P o a w K Q else E := by
  have hw : Region.wanted o (yielded ops a.tmps) = true := by simp [Region.wanted, hgd]
  rw [if_pos hw]
  obtain ⟨v', w', hrun, h2, h3, h4⟩ := run_app (P := P) w base t o.type e ht hinfo v l hown B A m c news hr hbound hbase
  unfold Oper.wp execOp
  simp only [ho, resolve, invoke, builtin, Sem.run_bind, Sem.run_pure, Result.andThen_ok, List.map_toArray, List.map_cons, List.map_nil, hs, hx, hrun]
  exact h v' w' h2 ⟨h3, h4.imp id fun e => ⟨_, e, Nat.le_refl _⟩⟩
end
set_option maxRecDepth 100000 in
set_option maxHeartbeats 4000000 in
theorem cwriteAll (m N cl base : Nat) (AL : Option Addr) (l : List Itm) (vb : Value) (lb : List UInt8) (w : World) (hm : pars l < m) (hbase : base ≤ w.heap.size) (hlen : lb.length + (wrs l).length ≤ 140737488355328) (hrt : rights l = true) (h5 : N ≤ cl ∧ N ≤ 140737488355328)
    (IH : Hid (CWriteIH m)) (H7 : Hid (0 < N → ∃ b o, AL = some ⟨b, o, none⟩ ∧ b < base ∧ RdIs w base b o l)) (HL : Hid (l.length = N)) (ho : Ob w base 5 vb lb) :
    Calls Tryz.prog 118 #[vb, .slice AL N cl] w (GivesW 5 base vb (lb ++ wrs l) w) := by
  have HO := Lib.hid ho
  have HRT := Lib.hid hrt
  have HLEN := Lib.hid hlen
  clear ho hrt hlen
  go_enter Tryz.func118, Tryz.ntmps118
  go_wp2_with fail
  go_loopw [0, 9] (fun bv i wr => ∃ j : Nat, j ≤ N ∧ i = .int .i64 j ∧ Hid (Ob wr base 5 bv (lb ++ wrs (l.take j))) ∧ Hid (Run vb w bv wr)) (fun _ i _ => N - (intOf i).toNat)
  case atStart => exact ⟨0, Nat.zero_le _, rfl, by show Ob _ _ _ _ _; rw [List.take_zero, wrs, List.append_nil]; exact HO.out, Run.refl _ _⟩
  case round =>
    obtain ⟨j, hj, rfl, hob, hrun⟩ := hrel
    have hbel := Lib.hid (hrun.out.below HO.out hbase)
    by_cases hlt : j < N
    · obtain ⟨b, o, rfl, hb, hs⟩ := H7.out (by omega)
      have hjl : j < l.length := by rw [HL.out]; exact hlt
      obtain ⟨c0, c1, c2, c3, g0, g1, g2, g3, gx⟩ := hs.get j hjl
      have e0 : wr.cell? ⟨b, o + j * 4, none⟩ = some c0 := (hbel.out.cell (p := ⟨b, o + j * 4, none⟩) hb).trans g0
      have e1 : wr.cell? ⟨b, o + j * 4 + 1, none⟩ = some c1 := (hbel.out.cell (p := ⟨b, o + j * 4 + 1, none⟩) hb).trans g1
      have e2 : wr.cell? ⟨b, o + j * 4 + 2, none⟩ = some c2 := (hbel.out.cell (p := ⟨b, o + j * 4 + 2, none⟩) hb).trans g2
      have e3 : wr.cell? ⟨b, o + j * 4 + 3, none⟩ = some c3 := (hbel.out.cell (p := ⟨b, o + j * 4 + 3, none⟩) hb).trans g3
      have hz : base ≤ wr.heap.size := Nat.le_trans hbase hbel.out.size
      have htk := wrs_take l j hjl
      have htl := wrs_take_len l (j + 1)
      have hpg : par (l[j]'hjl) ≤ pars l := par_get _
      rw [htk, List.length_append] at htl
      have hll := HLEN.out
      obtain ⟨k1, n1, A1, nd1, cd1, AL1, nl1, cl1, hf⟩ := gx.form
      injection hf with hf
      simp only [Array.mk.injEq, List.cons.injEq, and_true] at hf
      obtain ⟨rfl, rfl, rfl, rfl⟩ := hf
      have C1 := Lib.hid (IH.out (l[j]'hjl) _ _ (lb ++ wrs (l.take j)) (wr.alloc (.cells #[.int .i64 k1, .int .u64 (n1 : Int), .slice A1 nd1 cd1, .slice AL1 nl1 cl1] 92)) base (by omega) (right_get HRT.out hjl) (by rw [List.length_append]; omega) (Nat.le_trans hz (le_alloc _ _)) ((gx.below hbel.out).alloc hz _) (hob.out.alloc _))
      have HTK := Lib.hid htk
      generalize wri (l[j]'hjl) = WX at *
      clear g0 g1 g2 g3 gx hs htk htl hll hpg
      go_wp2_with fail
      refine C1.out.mono ?_
      rintro e w2 ⟨v2, rfl, ho2, hb2⟩
      have HO2 := Lib.hid ho2
      have HB2 := Lib.hid ((hrun.out.alloc _).trans hb2)
      clear ho2 hb2 e0 e1 e2 e3
      go_wp2_with fail
      go_roundw
      case rel => exact ⟨j + 1, by omega, by go_num, by show Ob _ _ _ _ _; rw [HTK.out, ← List.append_assoc]; exact HO2.out, HB2.out⟩
      case measure => simp [intOf]; omega
    · obtain rfl : j = N := by omega
      have hfin := hob.out
      rw [List.take_of_length_le (by rw [HL.out]; exact Nat.le_refl _)] at hfin
      have HF := Lib.hid hfin
      clear hfin
      go_wp2_with fail
      go_ret
      exact ⟨_, rfl, HF.out, hrun.out⟩
theorem Ob.apart {w : World} {base : Nat} {t : TypeId} {v : Value} {l : List UInt8} (h : Ob w base t v l) : v.ownBlock ≠ some w.heap.size := fun e => by
  have := (World.ownsRow.lt h _ e).2
  omega
theorem headK (k : Int) (n : Nat) (h0 : 0 ≤ k) (h7 : k ≤ 7) : headB k n = hd k.toNat n := by rw [headB, if_neg (by omega)]
set_option maxRecDepth 100000 in
set_option maxHeartbeats 4000000 in
theorem cwrite_uint (n nd cd N cl base : Nat) (A AL : Option Addr) (vb : Value) (lb : List UInt8) (w : World) (hn : n < 18446744073709551616) (hbase : base ≤ w.heap.size) (hlen : lb.length + (hd 0 n).length ≤ 140737488355328) (ho : Ob w base 5 vb lb) :
    Calls Tryz.prog 87 #[vb, .agg #[.int .i64 0, .int .u64 (n : Int), .slice A nd cd, .slice AL N cl]] w (GivesW 5 base vb (lb ++ hd 0 n) w) := by
  have C1 := Lib.hid (fun W => khead_any 0 n W (by decide) hn)
  rw [headK 0 n (by decide) (by decide), show (0 : Int).toNat = 0 from rfl] at C1
  have HO := Lib.hid (ho.alloc (.cells #[.int .i64 0, .int .u64 (n : Int), .slice A nd cd, .slice AL N cl] 92))
  generalize hd 0 n = H at *
  have HLEN := Lib.hid hlen
  have HBS := Lib.hid hbase
  clear ho hlen hbase
  go_enter Tryz.func87, Tryz.ntmps87
  go_wp2_with fail
  refine (C1.out _).mono ?_
  rintro e w1 ⟨v, rfl, ho1, hb1⟩
  obtain ⟨A2, c2, rfl, hc2, hm2, hr2⟩ := ho1.rd
  have HR := Lib.hid hr2
  have HB := Lib.hid hb1
  have hz1 : w.heap.size + 1 ≤ w1.heap.size := by have := hb1.size; simpa using this
  have HZ := Lib.hid (Nat.le_trans HBS.out (Nat.le_of_succ_le hz1))
  clear ho1 hr2 hb1
  go_wp2_with (first
    | (at_builtin; refine wpList_appR rfl (.tmp 9) (.tmp 14) 35 rfl base 5 Tryz.underlying35 info_u8 vb lb rfl (HO.out.below HB.out) _ _ _ _ H rfl HR.out HLEN.out HZ.out ?_; intro v3 w3 ho3 hb3; have O3 := Lib.hid ho3; have B3 := Lib.hid hb3; clear ho3 hb3)
    | fail)
  go_ret
  exact ⟨_, rfl, O3.out, (((Run.refl vb w).alloc _).quiet HB.out).trans B3.out⟩
set_option maxRecDepth 100000 in
set_option maxHeartbeats 4000000 in
theorem cwrite_text2 (nd cd N cl base : Nat) (A AL : Option Addr) (d : List UInt8) (vb : Value) (lb : List UInt8) (w : World) (hnd : nd ≤ 140737488355328) (hrd : Rd w base A nd d) (hbase : base ≤ w.heap.size) (hlen : lb.length + (hd 2 d.length ++ d).length ≤ 140737488355328) (ho : Ob w base 5 vb lb) :
    Calls Tryz.prog 87 #[vb, .agg #[.int .i64 2, .int .u64 0, .slice A nd cd, .slice AL N cl]] w (GivesW 5 base vb (lb ++ (hd 2 d.length ++ d)) w) := by
  rw [hrd.1] at hlen ⊢
  have C1 := Lib.hid (fun W => khead_any 2 nd W (by decide) (by omega))
  rw [headK 2 nd (by decide) (by decide), show (2 : Int).toNat = 2 from rfl] at C1
  have HO := Lib.hid (ho.alloc (.cells #[.int .i64 2, .int .u64 0, .slice A nd cd, .slice AL N cl] 92))
  have HAP := Lib.hid ho.apart
  have HRD := Lib.hid (hrd.alloc hbase (.cells #[.int .i64 2, .int .u64 0, .slice A nd cd, .slice AL N cl] 92))
  have hdl := hrd.1
  rw [List.length_append, hdl] at hlen
  generalize hd 2 nd = H at *
  have HLEN := Lib.hid hlen
  have HBS := Lib.hid hbase
  clear ho hlen hbase hrd hdl
  go_enter Tryz.func87, Tryz.ntmps87
  go_wp2_with fail
  refine (C1.out _).mono ?_
  rintro e w1 ⟨v, rfl, ho1, hb1⟩
  obtain ⟨A2, c2, rfl, hc2, hm2, hr2⟩ := ho1.rd
  have HR := Lib.hid hr2
  have HB := Lib.hid hb1
  have hz1 : w.heap.size + 1 ≤ w1.heap.size := by have := hb1.size; simpa using this
  have HZ := Lib.hid (Nat.le_trans HBS.out (Nat.le_of_succ_le hz1))
  have HZ1 := Lib.hid hz1
  have q2 : w1.cell? ⟨w.heap.size, 2, none⟩ = some (.slice A nd cd) := (hb1.cell (p := ⟨w.heap.size, 2, none⟩) (by simp)).trans (by simp)
  clear ho1 hr2 hb1 hz1
  go_wp2_with (first
    | (at_builtin; refine wpList_appR rfl (.tmp 19) (.tmp 26) 35 rfl base 5 Tryz.underlying35 info_u8 vb lb rfl (HO.out.below HB.out) _ _ _ _ H rfl HR.out (by have := HLEN.out; omega) HZ.out ?_; intro v3 w3 ho3 hb3; have O3 := Lib.hid ho3; have B3 := Lib.hid hb3; have q3 := (hb3.cell (p := ⟨w.heap.size, 2, none⟩) HZ1.out HAP.out).trans q2; clear ho3 hb3 q2)
    | (at_builtin; refine wpList_appR rfl (.tmp 28) (.tmp 30) 35 rfl base 5 Tryz.underlying35 info_u8 v3 (lb ++ H) rfl O3.out base A nd cd d rfl ((HRD.out.below (HB.out.mono (Nat.le_trans HBS.out (le_alloc _ _)))).below (B3.out.below (HO.out.below HB.out) HZ.out)) (by have := HLEN.out; rw [List.length_append]; omega) (Nat.le_trans HZ.out B3.out.grown.size) ?_; intro v4 w4 ho4 hb4; have O4 := Lib.hid ho4; have B4 := Lib.hid hb4; clear ho4 hb4)
    | fail)
  go_ret
  exact ⟨_, rfl, by rw [← List.append_assoc]; exact O4.out, ((((Run.refl vb w).alloc _).quiet HB.out).trans B3.out).trans B4.out⟩
set_option maxRecDepth 100000 in
set_option maxHeartbeats 4000000 in
theorem cwrite_text3 (nd cd N cl base : Nat) (A AL : Option Addr) (d : List UInt8) (vb : Value) (lb : List UInt8) (w : World) (hnd : nd ≤ 140737488355328) (hrd : Rd w base A nd d) (hbase : base ≤ w.heap.size) (hlen : lb.length + (hd 3 d.length ++ d).length ≤ 140737488355328) (ho : Ob w base 5 vb lb) :
    Calls Tryz.prog 87 #[vb, .agg #[.int .i64 3, .int .u64 0, .slice A nd cd, .slice AL N cl]] w (GivesW 5 base vb (lb ++ (hd 3 d.length ++ d)) w) := by
  rw [hrd.1] at hlen ⊢
  have C1 := Lib.hid (fun W => khead_any 3 nd W (by decide) (by omega))
  rw [headK 3 nd (by decide) (by decide), show (3 : Int).toNat = 3 from rfl] at C1
  have HO := Lib.hid (ho.alloc (.cells #[.int .i64 3, .int .u64 0, .slice A nd cd, .slice AL N cl] 92))
  have HAP := Lib.hid ho.apart
  have HRD := Lib.hid (hrd.alloc hbase (.cells #[.int .i64 3, .int .u64 0, .slice A nd cd, .slice AL N cl] 92))
  have hdl := hrd.1
  rw [List.length_append, hdl] at hlen
  generalize hd 3 nd = H at *
  have HLEN := Lib.hid hlen
  have HBS := Lib.hid hbase
  clear ho hlen hbase hrd hdl
  go_enter Tryz.func87, Tryz.ntmps87
  go_wp2_with fail
  refine (C1.out _).mono ?_
  rintro e w1 ⟨v, rfl, ho1, hb1⟩
  obtain ⟨A2, c2, rfl, hc2, hm2, hr2⟩ := ho1.rd
  have HR := Lib.hid hr2
  have HB := Lib.hid hb1
  have hz1 : w.heap.size + 1 ≤ w1.heap.size := by have := hb1.size; simpa using this
  have HZ := Lib.hid (Nat.le_trans HBS.out (Nat.le_of_succ_le hz1))
  have HZ1 := Lib.hid hz1
  have q2 : w1.cell? ⟨w.heap.size, 2, none⟩ = some (.slice A nd cd) := (hb1.cell (p := ⟨w.heap.size, 2, none⟩) (by simp)).trans (by simp)
  clear ho1 hr2 hb1 hz1
  go_wp2_with (first
    | (at_builtin; refine wpList_appR rfl (.tmp 19) (.tmp 26) 35 rfl base 5 Tryz.underlying35 info_u8 vb lb rfl (HO.out.below HB.out) _ _ _ _ H rfl HR.out (by have := HLEN.out; omega) HZ.out ?_; intro v3 w3 ho3 hb3; have O3 := Lib.hid ho3; have B3 := Lib.hid hb3; have q3 := (hb3.cell (p := ⟨w.heap.size, 2, none⟩) HZ1.out HAP.out).trans q2; clear ho3 hb3 q2)
    | (at_builtin; refine wpList_appR rfl (.tmp 28) (.tmp 30) 35 rfl base 5 Tryz.underlying35 info_u8 v3 (lb ++ H) rfl O3.out base A nd cd d rfl ((HRD.out.below (HB.out.mono (Nat.le_trans HBS.out (le_alloc _ _)))).below (B3.out.below (HO.out.below HB.out) HZ.out)) (by have := HLEN.out; rw [List.length_append]; omega) (Nat.le_trans HZ.out B3.out.grown.size) ?_; intro v4 w4 ho4 hb4; have O4 := Lib.hid ho4; have B4 := Lib.hid hb4; clear ho4 hb4)
    | fail)
  go_ret
  exact ⟨_, rfl, by rw [← List.append_assoc]; exact O4.out, ((((Run.refl vb w).alloc _).quiet HB.out).trans B3.out).trans B4.out⟩
set_option maxRecDepth 100000 in
set_option maxHeartbeats 4000000 in
theorem cwrite_arr4 (m nd cd N cl base : Nat) (A AL : Option Addr) (l : List Itm) (vb : Value) (lb : List UInt8) (w : World) (hm : pars l < m) (hbase : base ≤ w.heap.size) (hlen : lb.length + (hd 4 N ++ wrs l).length ≤ 140737488355328) (hrt : rights l = true) (h5 : N ≤ cl ∧ N ≤ 140737488355328)
    (IH : Hid (CWriteIH m)) (H7 : 0 < N → ∃ b o, AL = some ⟨b, o, none⟩ ∧ b < base ∧ RdIs w base b o l) (HL : Hid (l.length = N)) (ho : Ob w base 5 vb lb) :
    Calls Tryz.prog 87 #[vb, .agg #[.int .i64 4, .int .u64 0, .slice A nd cd, .slice AL N cl]] w (GivesW 5 base vb (lb ++ (hd 4 N ++ wrs l)) w) := by
  have C1 := Lib.hid (fun W => khead_any 4 N W (by decide) (by omega))
  rw [headK 4 N (by decide) (by decide), show (4 : Int).toNat = 4 from rfl] at C1
  have HO := Lib.hid (ho.alloc (.cells #[.int .i64 4, .int .u64 0, .slice A nd cd, .slice AL N cl] 92))
  have HAP := Lib.hid ho.apart
  rw [List.length_append] at hlen
  generalize hd 4 N = H at *
  have HO0 := Lib.hid ho
  have C2 := Lib.hid (fun (W : World) v (hr : Run vb w v W) (ho : Ob W base 5 v (lb ++ H)) => have hb := hr.below HO0.out hbase; cwriteAll m N cl base AL l v (lb ++ H) W hm (Nat.le_trans hbase hb.size) (by rw [List.length_append]; omega) hrt h5 IH (fun h0 => by
    obtain ⟨b, o, ea, hb2, hs⟩ := H7 h0
    exact ⟨b, o, ea, hb2, hs.below hb2 hb⟩) HL ho)
  generalize wrs l = L at *
  have HLEN := Lib.hid hlen
  have HBS := Lib.hid hbase
  clear ho hlen hbase H7 hm hrt
  go_enter Tryz.func87, Tryz.ntmps87
  go_wp2_with fail
  refine (C1.out _).mono ?_
  rintro e w1 ⟨v, rfl, ho1, hb1⟩
  obtain ⟨A2, c2, rfl, hc2, hm2, hr2⟩ := ho1.rd
  have HR := Lib.hid hr2
  have HB := Lib.hid hb1
  have hz1 : w.heap.size + 1 ≤ w1.heap.size := by have := hb1.size; simpa using this
  have HZ := Lib.hid (Nat.le_trans HBS.out (Nat.le_of_succ_le hz1))
  have HZ1 := Lib.hid hz1
  have q2 : w1.cell? ⟨w.heap.size, 3, none⟩ = some (.slice AL N cl) := (hb1.cell (p := ⟨w.heap.size, 3, none⟩) (by simp)).trans (by simp)
  clear ho1 hr2 hb1 hz1
  go_wp2_with (first
    | (at_builtin; refine wpList_appR rfl (.tmp 43) (.tmp 50) 35 rfl base 5 Tryz.underlying35 info_u8 vb lb rfl (HO.out.below HB.out) _ _ _ _ H rfl HR.out (by have := HLEN.out; omega) HZ.out ?_; intro v3 w3 ho3 hb3; have O3 := Lib.hid ho3; have B3 := Lib.hid ((((Run.refl vb w).alloc _).quiet HB.out).trans hb3); have q3 := (hb3.cell (p := ⟨w.heap.size, 3, none⟩) HZ1.out HAP.out).trans q2; clear ho3 hb3 q2)
    | fail)
  refine (C2.out _ _ B3.out O3.out).mono ?_
  rintro e w4 ⟨v4, rfl, ho4, hb4⟩
  have O4 := Lib.hid ho4
  have B4 := Lib.hid (B3.out.trans hb4)
  clear ho4 hb4
  go_wp2_with fail
  go_ret
  exact ⟨_, rfl, by rw [← List.append_assoc]; exact O4.out, B4.out⟩
set_option maxRecDepth 100000 in
set_option maxHeartbeats 4000000 in
theorem cwrite_arr5 (m nd cd N cl base : Nat) (A AL : Option Addr) (l : List Itm) (vb : Value) (lb : List UInt8) (w : World) (hm : pars l < m) (hbase : base ≤ w.heap.size) (hlen : lb.length + (0x9f :: (wrs l ++ [0xff])).length ≤ 140737488355328) (hrt : rights l = true) (h5 : N ≤ cl ∧ N ≤ 140737488355328)
    (IH : Hid (CWriteIH m)) (H7 : 0 < N → ∃ b o, AL = some ⟨b, o, none⟩ ∧ b < base ∧ RdIs w base b o l) (HL : Hid (l.length = N)) (ho : Ob w base 5 vb lb) :
    Calls Tryz.prog 87 #[vb, .agg #[.int .i64 5, .int .u64 0, .slice A nd cd, .slice AL N cl]] w (GivesW 5 base vb (lb ++ (0x9f :: (wrs l ++ [0xff]))) w) := by
  obtain ⟨H, hH⟩ : ∃ H : List UInt8, H = [0x9f] := ⟨_, rfl⟩
  have eq : lb ++ (0x9f :: (wrs l ++ [0xff])) = (lb ++ H ++ wrs l) ++ [0xff] := by rw [hH]; simp
  have hH1 : H.length = 1 := by rw [hH]; rfl
  rw [eq]
  simp only [List.length_cons, List.length_append, List.length_nil] at hlen
  have HO := Lib.hid (ho.alloc (.cells #[.int .i64 5, .int .u64 0, .slice A nd cd, .slice AL N cl] 92))
  have HAP := Lib.hid ho.apart
  have HH := Lib.hid hH
  have HO0 := Lib.hid ho
  have C2 := Lib.hid (fun (W : World) v (hr : Run vb w v W) (ho : Ob W base 5 v (lb ++ H)) => have hb := hr.below HO0.out hbase; cwriteAll m N cl base AL l v (lb ++ H) W hm (Nat.le_trans hbase hb.size) (by rw [List.length_append]; omega) hrt h5 IH (fun h0 => by
    obtain ⟨b, o, ea, hb2, hs⟩ := H7 h0
    exact ⟨b, o, ea, hb2, hs.below hb2 hb⟩) HL ho)
  have HL1 := Lib.hid hH1
  generalize wrs l = L at *
  have HLEN := Lib.hid hlen
  have HBS := Lib.hid hbase
  clear ho hlen hbase H7 hm hrt hH hH1 eq
  go_enter Tryz.func87, Tryz.ntmps87
  go_wp2_with fail
  have f3 : (w.alloc (.cells #[.int .i64 5, .int .u64 0, .slice A nd cd, .slice AL N cl] 92)).cell? ⟨w.heap.size, 3, none⟩ = some (.slice AL N cl) := by simp
  have FZ : Hid ((w.alloc (.cells #[.int .i64 5, .int .u64 0, .slice A nd cd, .slice AL N cl] 92)).heap.size = w.heap.size + 1) := (by simp : _ = _)
  have FB := Lib.hid ((Run.refl vb w).alloc (.cells #[.int .i64 5, .int .u64 0, .slice A nd cd, .slice AL N cl] 92))
  generalize w.alloc (.cells #[.int .i64 5, .int .u64 0, .slice A nd cd, .slice AL N cl] 92) = W0 at *
  have hzl : w.heap.size < W0.heap.size := by rw [FZ.out]; exact Nat.lt_succ_self _
  have hzb : base ≤ W0.heap.size := Nat.le_trans HBS.out (Nat.le_of_lt hzl)
  have HZL := Lib.hid hzl
  have HZB := Lib.hid hzb
  have FA := Lib.hid (fun (o : Obj) => (World.cell?_alloc_lt W0.drew o ⟨w.heap.size, 3, none⟩ hzl).trans f3)
  clear hzl hzb
  go_region_held3 (fun W => W.cell? ⟨w.heap.size, 3, none⟩ = some (.slice AL N cl))
    (first
      | (exact f3)
      | (exact FA.out _)
      | (exact q4)
      | (exact q3)
      | fail)
    (first
      | (go_at_call 118; refine (C2.out _ _ B3.out O3.out).mono ?_; rintro e w4 ⟨v4, rfl, ho4, hb4⟩; have O4 := Lib.hid ho4; have B4 := Lib.hid (B3.out.trans hb4); have q4 := (hb4.cell (p := ⟨w.heap.size, 3, none⟩) N3.out.1 N3.out.2).trans q3; clear ho4 hb4)
      | (refine step_appR (by rfl) (.tmp 34) (.tmp 35) 35 (by rfl) base 5 Tryz.underlying35 info_u8 vb lb (by rfl) (HO.out.drew.alloc _) (W0.heap.size + 1) (some ⟨W0.heap.size, 0, none⟩) 1 1 H (by rfl) (Rd.lit W0.drew _ (by simp) H 5 #[.int .u8 159] (by rw [HH.out]; rfl) 1 HL1.out) (by have := HLEN.out; omega) (Nat.le_trans HZB.out (le_alloc W0.drew _)) ?_; intro v3 w3 ho3 hb3; have O3 := Lib.hid ho3; have B3 := Lib.hid ((FB.out.drew.alloc _).trans hb3); have q3 := (hb3.cell (p := ⟨w.heap.size, 3, none⟩) (Nat.lt_of_lt_of_le HZL.out (le_alloc W0.drew _)) HAP.out).trans (FA.out _); have N3 := Lib.hid (And.intro (Nat.lt_of_lt_of_le (Nat.lt_of_lt_of_le HZL.out (le_alloc W0.drew _)) hb3.grown.size) (hb3.ne (k := w.heap.size) (Nat.lt_of_lt_of_le HZL.out (le_alloc W0.drew _)) HAP.out)); clear ho3 hb3)
      | fail)
  have HZ4 := Lib.hid (Nat.le_trans HBS.out B4.out.grown.size)
  go_wp2_with (first
    | (at_builtin; refine wpList_appR rfl (.tmp 40) (.tmp 41) 35 rfl base 5 Tryz.underlying35 info_u8 v4 (lb ++ H ++ L) rfl (O4.out.alloc _) (w4.heap.size + 1) (some ⟨w4.heap.size, 0, none⟩) 1 1 [255] rfl (Rd.lit w4 _ rfl [255] 5 #[.int .u8 255] rfl 1 rfl) (by have := HLEN.out; have := HL1.out; simp only [List.length_append]; omega) (Nat.le_trans HZ4.out (le_alloc _ _)) ?_; intro v5 w5 ho5 hb5; have O5 := Lib.hid ho5; have B5 := Lib.hid ((B4.out.alloc _).trans hb5); clear ho5 hb5)
    | fail)
  go_ret
  exact ⟨_, rfl, O5.out, B5.out⟩
theorem own_k {k : Int} {n : Nat} {d : List UInt8} {l : List Itm} (h : own k n d l = true) : (k = 0 ∧ d = [] ∧ l = []) ∨ ((k = 2 ∨ k = 3) ∧ n = 0 ∧ l = []) ∨ ((k = 4 ∨ k = 5) ∧ n = 0 ∧ d = []) := by
  unfold own at h
  by_cases h0 : k = 0
  · rw [if_pos h0] at h; simp at h; exact .inl ⟨h0, h.1, h.2⟩
  rw [if_neg h0] at h
  by_cases h2 : k = 2
  · rw [if_pos h2] at h; simp at h; exact .inr (.inl ⟨.inl h2, h.1, h.2⟩)
  rw [if_neg h2] at h
  by_cases h3 : k = 3
  · rw [if_pos h3] at h; simp at h; exact .inr (.inl ⟨.inr h3, h.1, h.2.1⟩)
  rw [if_neg h3] at h
  by_cases h4 : k = 4 ∨ k = 5
  · rw [if_pos h4] at h; simp at h; exact .inr (.inr ⟨h4, h.1, h.2⟩)
  · rw [if_neg h4] at h; cases h
theorem cwrite_n : ∀ m : Nat, CWriteIH m
  | 0 => fun _ _ _ _ _ _ h => absurd h (Nat.not_lt_zero _)
  | m + 1 => by
    rintro ⟨k, n, d, l⟩ v vb lb w base hm hr hlen hbase h ho
    have IH := Lib.hid (cwrite_n m)
    obtain ⟨A, nd, cd, AL, cl, rfl, h1, h2, h3, h4, h5, h7⟩ := h.open
    rw [right, Bool.and_eq_true] at hr
    rw [par] at hm
    rcases own_k hr.1 with ⟨rfl, rfl, rfl⟩ | ⟨hk, rfl, rfl⟩ | ⟨hk, rfl, rfl⟩
    · rw [wri, if_pos rfl] at hlen ⊢
      exact cwrite_uint n nd cd _ cl base A AL vb lb w h2 hbase hlen ho
    · rcases hk with rfl | rfl
      · rw [wri, if_neg (by decide), if_pos (by decide)] at hlen ⊢
        exact cwrite_text2 nd cd _ cl base A AL d vb lb w h3.2 h4 hbase hlen ho
      · rw [wri, if_neg (by decide), if_pos (by decide)] at hlen ⊢
        exact cwrite_text3 nd cd _ cl base A AL d vb lb w h3.2 h4 hbase hlen ho
    · rcases hk with rfl | rfl
      · rw [wri, if_neg (by decide), if_neg (by decide), if_pos rfl] at hlen ⊢
        exact cwrite_arr4 m nd cd l.length cl base A AL l vb lb w (by omega) hbase hlen hr.2 h5 IH h7 rfl ho
      · rw [wri, if_neg (by decide), if_neg (by decide), if_neg (by decide)] at hlen ⊢
        exact cwrite_arr5 m nd cd l.length cl base A AL l vb lb w (by omega) hbase hlen hr.2 h5 IH h7 rfl ho
end Go.Proofs.YtoggkjoadiombaaGreatDoor
/- What Encode of layer 3 returns. -/
namespace Go.Proofs.YtoggkjoadiombaaGreatDoor
open Go.RowKit
end Go.Proofs.YtoggkjoadiombaaGreatDoor
/- What Uint and Text of layer 3 return, with nothing in it that is read below a block lo; an item stored into cells of one's own. -/
namespace Go.Proofs.YtoggkjoadiombaaGreatDoor
open Go.RowKit
def GivesL (lo : Nat) (x : Itm) (w : World) (e : Ending) (w' : World) : Prop := ∃ v, e = .returned v ∧ RdI (mask (lows lo) w') w'.heap.size v x ∧ Below w.heap.size w w'
theorem Rd.mask_one {w : World} {lo B n b o : Nat} {l : List UInt8} (h : Rd w B (some ⟨b, o, none⟩) n l) (hb : lo ≤ b) : Rd (mask (lows lo) w) B (some ⟨b, o, none⟩) n l :=
  ⟨h.1, fun hn => by
    obtain ⟨b', o', e, hB, hc⟩ := h.2 hn
    injection e with e
    injection e with e1 e2
    subst e1 e2
    exact ⟨b, o, rfl, hB, fun i hi => (mask_cell (lows_f.2 hb)).trans (hc i hi)⟩⟩
theorem RdI.put4 {W : World} {B B' g lo lo' : Nat} {v : Value} {x : Itm} {u0 u1 u2 u3 : Value} (h : RdI (mask (lows lo) W) B v x) (hl : lo' ≤ lo) (hg : g < lo) (hB : B ≤ B') :
    RdI (mask (lows lo') ((((W.setCell ⟨g, 0, none⟩ u0).setCell ⟨g, 1, none⟩ u1).setCell ⟨g, 2, none⟩ u2).setCell ⟨g, 3, none⟩ u3)) B' v x :=
  h.sub hB fun q u _ hc => by
    have h1 := lows_f.1 (mask_out hc)
    have hq : ¬ g = q.block := by omega
    rw [mask_cell (lows_f.2 (by omega)), World.cell?_setCell_far _ _ _ _ hq, World.cell?_setCell_far _ _ _ _ hq, World.cell?_setCell_far _ _ _ _ hq, World.cell?_setCell_far _ _ _ _ hq]
    exact mask_sub hc
theorem RdI.grow {W W' : World} {lo lo' : Nat} {v : Value} {x : Itm} (h : RdI (mask (lows lo) W) W.heap.size v x) (hb : Below W.heap.size W W') (hl : lo' ≤ lo) : RdI (mask (lows lo') W') W'.heap.size v x :=
  h.sub hb.size fun q u hp hc => by
    have h1 := lows_f.1 (mask_out hc)
    rw [mask_cell (lows_f.2 (by omega)), hb.cell hp]
    exact mask_sub hc
theorem size_put4 {W : World} {g : Nat} {u0 u1 u2 u3 : Value} : ((((W.setCell ⟨g, 0, none⟩ u0).setCell ⟨g, 1, none⟩ u1).setCell ⟨g, 2, none⟩ u2).setCell ⟨g, 3, none⟩ u3).heap.size = W.heap.size := by simp [World.setCell]
theorem zero4 {w W' : World} {g : Nat} (hg : g = w.heap.size) (h : Below (g + 1) (w.alloc (.cells #[.int .i64 0, .int .u64 0, .slice none 0 0, .slice none 0 0] 92)) W') :
    (W'.cell? ⟨g, 0, none⟩ = some (.int .i64 0) ∧ W'.cell? ⟨g, 1, none⟩ = some (.int .u64 0) ∧ W'.cell? ⟨g, 2, none⟩ = some (.slice none 0 0) ∧ W'.cell? ⟨g, 3, none⟩ = some (.slice none 0 0)) ∧
    (W'.frozen? ⟨g, 0, none⟩ = false ∧ W'.frozen? ⟨g, 1, none⟩ = false ∧ W'.frozen? ⟨g, 2, none⟩ = false ∧ W'.frozen? ⟨g, 3, none⟩ = false) := by
  subst hg
  exact zero_cells h
set_option maxRecDepth 100000 in
set_option maxHeartbeats 1000000 in
theorem cuintL_any (lo n : Nat) (w : World) (h : n < 18446744073709551616) :
    Calls Tryz.prog 88 #[.int .u64 (n : Int)] w (GivesL lo (.mk 0 n [] []) w) := by
  go_enter Tryz.func88, Tryz.ntmps88
  go_wp2_with fail
  have hr := fun W B => RdI.mk_uint (w := W) (B := B) (n := n) h
  exact bodyPost_ret (v := .agg #[.int .i64 0, .int .u64 (n : Int), .slice none 0 0, .slice none 0 0]) (by simp [results, Tryz.results88, go_sem]) rfl ⟨_, rfl, hr _ _, (Below.refl _ _).alloc (Nat.le_refl _) _⟩
set_option maxRecDepth 100000 in
set_option maxHeartbeats 1000000 in
theorem ctextL_any (lo : Nat) (s : ByteArray) (w : World) (hlo : lo ≤ w.heap.size) (hs : s.size ≤ 140737488355328) :
    Calls Tryz.prog 170 #[.string s] w (GivesL lo (.mk 3 0 s.data.toList []) w) := by
  obtain ⟨c, W', hrun, hrd, hc, hb, hz⟩ := conv_bytes (w.alloc (.cells #[.int .i64 0, .int .u64 0, .slice none 0 0, .slice none 0 0] 92)) s
  have hz1 : (w.alloc (.cells #[.int .i64 0, .int .u64 0, .slice none 0 0, .slice none 0 0] 92)).heap.size = w.heap.size + 1 := by simp
  rw [hz1] at hrun hrd hb hz
  obtain ⟨⟨z0, z1, z2, z3⟩, f0, f1, f2, f3⟩ := zero_cells hb
  have HRD := Lib.hid hrd
  have HB := Lib.hid hb
  have HZ := Lib.hid hz
  have HS := Lib.hid hs
  have HLO := Lib.hid hlo
  clear hrd hb hz hz1 hs hlo
  go_enter Tryz.func170, Tryz.ntmps170
  go_wp2_with fail
  have hsz4 : ((((W'.setCell ⟨w.heap.size, 0, none⟩ (.int .i64 3)).setCell ⟨w.heap.size, 1, none⟩ (.int .u64 0)).setCell ⟨w.heap.size, 2, none⟩ (.slice (some ⟨w.heap.size + 1, 0, none⟩) s.size c)).setCell ⟨w.heap.size, 3, none⟩ (.slice none 0 0)).heap.size = W'.heap.size := by simp [World.setCell]
  refine bodyPost_ret (v := .agg #[.int .i64 3, .int .u64 0, .slice (some ⟨w.heap.size + 1, 0, none⟩) s.size c, .slice none 0 0]) (by simp [results, Tryz.results170, go_sem, z0, z1, z2, z3]) rfl ⟨_, rfl, RdI.mk_data (by decide) hc HS.out (Rd.mask_one ?_ (Nat.le_trans HLO.out (Nat.le_succ _))), ?_⟩
  · rw [hsz4, HZ.out]
    exact HRD.out.set4 (fun _ b o h => (by cases h; omega))
  · exact below_set4 (((Below.refl _ _).alloc (Nat.le_refl _) _).trans (HB.out.mono (Nat.le_succ _))) (Nat.le_refl _)
end Go.Proofs.YtoggkjoadiombaaGreatDoor
/- Chosen by shake.py of the texts of the layers below: what dec_any need. -/
section
namespace Go.Proofs.YtoggkjoadiombaaGreatDoor
open Go.RowKit
def decRow (f : Nat) (suf : List UInt8) : Nat → Value := fun j => if f ≤ j then .int .u8 ((suf.getD (j - f) 0).toNat : Int) else .int .u8 0
theorem dig10 (d : Nat) (h : d < 16) (h10 : d < 10) : Value.int .u8 (((⟨#[48, 49, 50, 51, 52, 53, 54, 55, 56, 57, 97, 98, 99, 100, 101, 102]⟩ : ByteArray)[d]'h).toNat : Int) = .int .u8 ((UInt8.ofNat (48 + d)).toNat : Int) := by
  have : ∀ d : Fin 10, (⟨#[48, 49, 50, 51, 52, 53, 54, 55, 56, 57, 97, 98, 99, 100, 101, 102]⟩ : ByteArray)[d.val]'(Nat.lt_of_lt_of_le d.isLt (by decide)) = UInt8.ofNat (48 + d.val) := by decide +kernel
  rw [this ⟨d, h10⟩]
theorem decRow_step (a f : Nat) (suf : List UInt8) (j : Nat) (hf : 1 ≤ f) (_hs : f ≤ 20) (_hj : j < 20) {h : a % 10 < 16} :
    (if j = f - 1 then Value.int .u8 (((⟨#[48, 49, 50, 51, 52, 53, 54, 55, 56, 57, 97, 98, 99, 100, 101, 102]⟩ : ByteArray)[a % 10]'h).toNat : Int) else decRow f suf j) = decRow (f - 1) (UInt8.ofNat (48 + a % 10) :: suf) j := by
  rw [dig10 _ h (by omega)]
  unfold decRow
  by_cases e : j = f - 1
  · subst e
    rw [if_pos rfl, if_pos (Nat.le_refl _), Nat.sub_self]
    rfl
  · rw [if_neg e]
    by_cases h2 : f ≤ j
    · rw [if_pos h2, if_pos (by omega), show j - (f - 1) = (j - f) + 1 by omega]
      simp [List.getD]
    · rw [if_neg h2, if_neg (by omega)]
theorem decRow_set {w : World} {b f : Nat} {t : TypeId} {suf : List UInt8} (hrow : w.rowIs b t 20 (decRow f suf)) (a : Nat) (hf : 1 ≤ f) (hf20 : f ≤ 20) (h : a % 10 < 16) :
    (w.setCell ⟨b, f - 1, none⟩ (Value.int .u8 (((⟨#[48, 49, 50, 51, 52, 53, 54, 55, 56, 57, 97, 98, 99, 100, 101, 102]⟩ : ByteArray)[a % 10]'h).toNat : Int))).rowIs b t 20 (decRow (f - 1) (UInt8.ofNat (48 + a % 10) :: suf)) :=
  (World.rowIs.set hrow (f - 1) _).congr fun j hj => decRow_step a f suf j hf hf20 hj
set_option maxRecDepth 100000 in
set_option maxHeartbeats 1000000 in
theorem dec_any (x : Int) (w : World) (h0 : 0 ≤ x) (h1 : x < 18446744073709551616) :
    Calls Tryz.prog 35 #[.int .u64 x] w fun e w' => e = .returned (.string ⟨(Lib.decDigits x.toNat).toArray⟩) ∧ Below w.heap.size w w' := by
  go_enter Tryz.func35, Tryz.ntmps35
  go_wp2
  go_loopw [0, 4] (fun v i wr => ∃ (a f : Nat) (suf : List UInt8), v = .int .u64 (a : Int) ∧ i = .int .i64 (f : Int) ∧ 1 ≤ f ∧ f ≤ 20 ∧ a < 18446744073709551616 ∧ Hid (a < 10 ^ f) ∧ Hid (suf.length = 20 - f) ∧
      Hid (Lib.decDigits x.toNat = Lib.decDigits a ++ suf) ∧ Hid (wr.rowIs w.heap.size 84 20 (decRow f suf)) ∧ Hid (Below w.heap.size w wr))
    (fun _ i _ => (intOf i).toNat)
  case atStart =>
    refine ⟨x.toNat, 20, [], by go_num, rfl, by omega, by omega, by omega, (by omega : x.toNat < 100000000000000000000), rfl, by simp [Hid], ?_, (Below.refl _ _).alloc (Nat.le_refl _) _⟩
    exact World.rowIs_alloc w _ _ _ (fun i hi => by
      have hi' : i < 20 := hi
      have : ∀ i, i < 20 → (#[Value.int IntKind.u8 0, Value.int IntKind.u8 0, Value.int IntKind.u8 0, Value.int IntKind.u8 0, Value.int IntKind.u8 0, Value.int IntKind.u8 0, Value.int IntKind.u8 0, Value.int IntKind.u8 0, Value.int IntKind.u8 0, Value.int IntKind.u8 0, Value.int IntKind.u8 0, Value.int IntKind.u8 0, Value.int IntKind.u8 0, Value.int IntKind.u8 0, Value.int IntKind.u8 0, Value.int IntKind.u8 0, Value.int IntKind.u8 0, Value.int IntKind.u8 0, Value.int IntKind.u8 0, Value.int IntKind.u8 0] : Array Value)[i]? = some (.int .u8 0) :=
        fun i hi => by
          have h : (Array.replicate 20 (Value.int IntKind.u8 0))[i]? = some (.int .u8 0) := by simp [hi]
          exact h
      rw [this i hi']
      simp [decRow])
  case round =>
    obtain ⟨a, f, suf, rfl, rfl, hf, hf20, ha, hpow, hsuf, hdig, hrow, hbel⟩ := hrel
    have hf1 : wr.frozen? ⟨w.heap.size, f - 1, none⟩ = false := World.rowIs.frozen hrow.out _
    have hc1 : wr.cell? ⟨w.heap.size, f - 1, none⟩ = some _ := World.rowIs.cell hrow.out (by omega)
    have hsl := sliceAt_l (P := Tryz.prog) 84 5 20 rfl rfl rfl size_u8 w.heap.size (f - 1) ((f : Int) - 1) (by omega) (by omega)
    by_cases hz : a < 10
    · have ht : ((a : Int) / 10 == 0) = true := by simp; omega
      have hd : ∀ W : World, W.rowIs w.heap.size 84 20 (decRow (f - 1) (UInt8.ofNat (48 + a % 10) :: suf)) →
          (convert 35 9 (.slice (some ⟨w.heap.size, f - 1, none⟩) (20 - (f - 1)) (20 - (f - 1)))).run Tryz.prog W = .ok (.string ⟨(UInt8.ofNat (48 + a % 10) :: suf).toArray⟩) W := fun W h =>
        run_str (rowIs_rd (B := w.heap.size + 1) h (by have := hsuf.out; simp; omega) (by omega) (by omega) (fun i hi => by unfold decRow; rw [if_pos (by omega), Nat.add_sub_cancel_left])) 35 5 9 rfl rfl rfl
      have hfin : (UInt8.ofNat (48 + a % 10) :: suf) = Lib.decDigits x.toNat := by rw [hdig.out, Lib.decDigits, dif_pos hz, Nat.mod_eq_of_lt hz]; rfl
      have HD := Lib.hid hd
      have HF := Lib.hid hfin
      clear hd hfin
      have hd := HD.out _ (decRow_set hrow.out a hf hf20 (by omega))
      go_wp2_with fail
      go_ret
      exact ⟨by rw [← HF.out]; simp, hbel.out.setCell (by simp) _⟩
    · have ht : ((a : Int) / 10 == 0) = false := by simp; omega
      go_wp2_with fail
      go_roundw
      case rel =>
        have hp := hpow.out
        have hs := hsuf.out
        have hf2 : 2 ≤ f := by
          rcases Nat.lt_or_ge f 2 with h | h
          · have : f = 1 := by omega
            subst this
            simp at hp
            omega
          · exact h
        refine ⟨a / 10, f - 1, UInt8.ofNat (48 + a % 10) :: suf, by go_num, by go_num, by omega, by omega, by omega, ?_, by simp [Hid]; omega, ?_, decRow_set hrow.out a hf hf20 (by omega), hbel.out.setCell (by simp) _⟩
        · have e : 10 ^ f = 10 ^ (f - 1) * 10 := by rw [← Nat.pow_succ]; congr 1; omega
          rw [e] at hp
          exact Nat.div_lt_of_lt_mul (by rw [Nat.mul_comm]; exact hp)
        · show Lib.decDigits x.toNat = _
          rw [hdig.out, Lib.decDigits, dif_neg hz]
          simp
      case measure => simp [intOf]; omega
end Go.Proofs.YtoggkjoadiombaaGreatDoor
end
