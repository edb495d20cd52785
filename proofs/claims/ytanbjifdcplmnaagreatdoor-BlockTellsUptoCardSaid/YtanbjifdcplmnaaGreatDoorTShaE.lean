/- What Uint and Text of layer 3 return, with nothing in it that is read below a block lo; an item stored into cells of one's own. -/
import Derived.Test.YtanbjifdcplmnaaGreatDoorTCborI
import Derived.Test.YtanbjifdcplmnaaGreatDoorTCborQ
import Derived.Test.YtanbjifdcplmnaaGreatDoorTEidS
import Derived.Test.YtanbjifdcplmnaaGreatDoorTNumB
import Derived.Test.YtanbjifdcplmnaaGreatDoorTNumG
import Derived.Test.YtanbjifdcplmnaaGreatDoorTSame
import Derived.Shelf.RegionOpenPlain
import Derived.Deep.DeepFit
import Derived.LaidEql
import Derived.Stop.Asserts
import Derived.Stop.IfaceNil
import Derived.RowKitTokens
import Derived.Deep.RegionHeld3
import Derived.Test.YtanbjifdcplmnaaGreatDoorRows
import Derived.Below
import Derived.BigCall
import Derived.BigGuard
import Derived.BigGuardPart
import Derived.BigQuiet
import Derived.Deep.DeepCutAuto
import Derived.Deep.Draws
import Derived.Deep.OwnRows
import Derived.Deep.QuietTactic
import Derived.Laws.AppendOwn
import Derived.Laws.BitsAllLaws
import Derived.Laws.BytesArg
import Derived.Laws.IdiomStrings
import Derived.Laws.NewBlocks
import Derived.Laws.Strings3
import Derived.Lib.EndianBits
import Derived.Lib.HexFns
import Derived.Lib.Hide
import Derived.Lib.ItoaNum
import Derived.Lib.SlBytesConst
import Derived.Lib.Strings
import Derived.Lib.Walk
import Derived.Outline
import Derived.WalkKit
import Derived.WalkLawsBesides
import Derived.Deep.AppendLies
import Derived.Deep.WholeRow
import Derived.Laws.ResultCell
import Derived.Laws.Tables
import Derived.Great.BuildSlice
import Derived.Laws.CopyOwn
import Derived.IntWalk
import Derived.RegionTactic
import Derived.Deep.RegionLawGrows
namespace Go.Proofs.YtanbjifdcplmnaaGreatDoor
open Go.RowKit

/-- An item, read in no block below lo. -/
def GivesL (lo : Nat) (x : Itm) (w : World) (e : Ending) (w' : World) : Prop := ∃ v, e = .returned v ∧ RdI (mask (lows lo) w') w'.heap.size v x ∧ Below w.heap.size w w'

theorem Rd.mask_one {w : World} {lo B n b o : Nat} {l : List UInt8} (h : Rd w B (some ⟨b, o, none⟩) n l) (hb : lo ≤ b) : Rd (mask (lows lo) w) B (some ⟨b, o, none⟩) n l :=
  ⟨h.1, fun hn => by
    obtain ⟨b', o', e, hB, hc⟩ := h.2 hn
    injection e with e
    injection e with e1 e2
    subst e1 e2
    exact ⟨b, o, rfl, hB, fun i hi => (mask_cell (lows_f.2 hb)).trans (hc i hi)⟩⟩

/-- Four stores into block g, which the item is not read in. -/
theorem RdI.put4 {W : World} {B B' g lo lo' : Nat} {v : Value} {x : Itm} {u0 u1 u2 u3 : Value} (h : RdI (mask (lows lo) W) B v x) (hl : lo' ≤ lo) (hg : g < lo) (hB : B ≤ B') :
    RdI (mask (lows lo') ((((W.setCell ⟨g, 0, none⟩ u0).setCell ⟨g, 1, none⟩ u1).setCell ⟨g, 2, none⟩ u2).setCell ⟨g, 3, none⟩ u3)) B' v x :=
  h.sub hB fun q u _ hc => by
    have h1 := lows_f.1 (mask_out hc)
    have hq : ¬ g = q.block := by omega
    rw [mask_cell (lows_f.2 (by omega)), World.cell?_setCell_far _ _ _ _ hq, World.cell?_setCell_far _ _ _ _ hq, World.cell?_setCell_far _ _ _ _ hq, World.cell?_setCell_far _ _ _ _ hq]
    exact mask_sub hc
/-- The same item in a world that grew. -/
theorem RdI.grow {W W' : World} {lo lo' : Nat} {v : Value} {x : Itm} (h : RdI (mask (lows lo) W) W.heap.size v x) (hb : Below W.heap.size W W') (hl : lo' ≤ lo) : RdI (mask (lows lo') W') W'.heap.size v x :=
  h.sub hb.size fun q u hp hc => by
    have h1 := lows_f.1 (mask_out hc)
    rw [mask_cell (lows_f.2 (by omega)), hb.cell hp]
    exact mask_sub hc
theorem size_put4 {W : World} {g : Nat} {u0 u1 u2 u3 : Value} : ((((W.setCell ⟨g, 0, none⟩ u0).setCell ⟨g, 1, none⟩ u1).setCell ⟨g, 2, none⟩ u2).setCell ⟨g, 3, none⟩ u3).heap.size = W.heap.size := by simp [World.setCell]

/-- Zeros of an item's cells, in a block of one's own. -/
theorem zero4 {w W' : World} {g : Nat} (hg : g = w.heap.size) (h : Below (g + 1) (w.alloc (.cells #[.int .i64 0, .int .u64 0, .slice none 0 0, .slice none 0 0] 37)) W') :
    (W'.cell? ⟨g, 0, none⟩ = some (.int .i64 0) ∧ W'.cell? ⟨g, 1, none⟩ = some (.int .u64 0) ∧ W'.cell? ⟨g, 2, none⟩ = some (.slice none 0 0) ∧ W'.cell? ⟨g, 3, none⟩ = some (.slice none 0 0)) ∧
    (W'.frozen? ⟨g, 0, none⟩ = false ∧ W'.frozen? ⟨g, 1, none⟩ = false ∧ W'.frozen? ⟨g, 2, none⟩ = false ∧ W'.frozen? ⟨g, 3, none⟩ = false) := by
  subst hg
  exact zero_cells h

set_option maxRecDepth 100000 in
set_option maxHeartbeats 1000000 in
theorem cuintL_any (lo n : Nat) (w : World) (h : n < 18446744073709551616) :
    Calls Tryz.prog 89 #[.int .u64 (n : Int)] w (GivesL lo (.mk 0 n [] []) w) := by
  go_enter Tryz.func89, Tryz.ntmps89
  go_wp2_with fail
  have hr := fun W B => RdI.mk_uint (w := W) (B := B) (n := n) h
  exact bodyPost_ret (v := .agg #[.int .i64 0, .int .u64 (n : Int), .slice none 0 0, .slice none 0 0]) (by simp [results, Tryz.results89, go_sem]) rfl ⟨_, rfl, hr _ _, (Below.refl _ _).alloc (Nat.le_refl _) _⟩

set_option maxRecDepth 100000 in
set_option maxHeartbeats 1000000 in
theorem ctextL_any (lo : Nat) (s : ByteArray) (w : World) (hlo : lo ≤ w.heap.size) (hs : s.size ≤ 140737488355328) :
    Calls Tryz.prog 121 #[.string s] w (GivesL lo (.mk 3 0 s.data.toList []) w) := by
  obtain ⟨c, W', hrun, hrd, hc, hb, hz⟩ := conv_bytes (w.alloc (.cells #[.int .i64 0, .int .u64 0, .slice none 0 0, .slice none 0 0] 37)) s
  have hz1 : (w.alloc (.cells #[.int .i64 0, .int .u64 0, .slice none 0 0, .slice none 0 0] 37)).heap.size = w.heap.size + 1 := by simp
  rw [hz1] at hrun hrd hb hz
  obtain ⟨⟨z0, z1, z2, z3⟩, f0, f1, f2, f3⟩ := zero_cells hb
  have HRD := Lib.hid hrd
  have HB := Lib.hid hb
  have HZ := Lib.hid hz
  have HS := Lib.hid hs
  have HLO := Lib.hid hlo
  clear hrd hb hz hz1 hs hlo
  go_enter Tryz.func121, Tryz.ntmps121
  go_wp2_with fail
  have hsz4 : ((((W'.setCell ⟨w.heap.size, 0, none⟩ (.int .i64 3)).setCell ⟨w.heap.size, 1, none⟩ (.int .u64 0)).setCell ⟨w.heap.size, 2, none⟩ (.slice (some ⟨w.heap.size + 1, 0, none⟩) s.size c)).setCell ⟨w.heap.size, 3, none⟩ (.slice none 0 0)).heap.size = W'.heap.size := by simp [World.setCell]
  refine bodyPost_ret (v := .agg #[.int .i64 3, .int .u64 0, .slice (some ⟨w.heap.size + 1, 0, none⟩) s.size c, .slice none 0 0]) (by simp [results, Tryz.results121, go_sem, z0, z1, z2, z3]) rfl ⟨_, rfl, RdI.mk_data (by decide) hc HS.out (Rd.mask_one ?_ (Nat.le_trans HLO.out (Nat.le_succ _))), ?_⟩
  · rw [hsz4, HZ.out]
    exact HRD.out.set4 (fun _ b o h => (by cases h; omega))
  · exact below_set4 (((Below.refl _ _).alloc (Nat.le_refl _) _).trans (HB.out.mono (Nat.le_succ _))) (Nat.le_refl _)
end Go.Proofs.YtanbjifdcplmnaaGreatDoor
/- What bytes.Equal returns. -/
namespace Go.Proofs.YtanbjifdcplmnaaGreatDoor
open Go.RowKit

set_option maxRecDepth 100000 in
set_option maxHeartbeats 1000000 in
theorem bequal_any (A A' : Option Addr) (n c n' c' B : Nat) (l l' : List UInt8) (w : World) (h : Rd w B A n l) (h' : Rd w B A' n' l') :
    Calls Tryz.prog 62 #[.slice A n c, .slice A' n' c'] w fun e w' => e = .returned (.bool (l == l')) ∧ w = w' := by
  have r1 := run_str (P := Tryz.prog) (c := c) h 22 5 9 Tryz.underlying22 Tryz.underlying5 Tryz.underlying9
  have r2 := run_str (P := Tryz.prog) (c := c') h' 22 5 9 Tryz.underlying22 Tryz.underlying5 Tryz.underlying9
  have e1 : (⟨l.toArray⟩ : ByteArray).toList = l := by rw [Lib.toList_data]
  have e2 : (⟨l'.toArray⟩ : ByteArray).toList = l' := by rw [Lib.toList_data]
  have HE := Lib.hid (And.intro e1 e2)
  generalize (⟨l.toArray⟩ : ByteArray) = s at *
  generalize (⟨l'.toArray⟩ : ByteArray) = s' at *
  clear h h' e1 e2
  go_enter Tryz.func62, Tryz.ntmps62
  go_wp2_with fail
  go_ret
  refine ⟨?_, rfl⟩
  have h : (s.toList == s'.toList) = (l == l') := by rw [HE.out.1, HE.out.2]
  rw [← h]
  rfl

end Go.Proofs.YtanbjifdcplmnaaGreatDoor
/- What layer 4's questions about bytes and texts return: isLetter, or's function, only (at both), isName; strings.Cut at one byte. -/
namespace Go.Proofs.YtanbjifdcplmnaaGreatDoor
open Go.RowKit

theorem letter_num (x : UInt8) : letterB x = ((decide (97 ≤ x.toNat) && decide (x.toNat ≤ 122)) || ((decide (48 ≤ x.toNat) && decide (x.toNat ≤ 57)) || (decide (x.toNat = 46) || (decide (x.toNat = 45) || decide (x.toNat = 95))))) := by
  have e : ∀ k : UInt8, (x == k) = decide (x.toNat = k.toNat) := fun k => by
    by_cases h : x = k
    · subst h; simp
    · rw [beq_eq_false_iff_ne.2 h, decide_eq_false]
      intro h2
      exact h (UInt8.toNat_inj.1 h2)
  unfold letterB
  rw [e 46, e 45, e 95]
  rfl

set_option maxRecDepth 100000 in
set_option maxHeartbeats 1000000 in
theorem isletter_n (X : Nat) (w : World) :
    Calls Tryz.prog 127 #[.int .u8 (X : Int)] w fun e w' => e = .returned (.bool ((decide (97 ≤ X) && decide (X ≤ 122)) || ((decide (48 ≤ X) && decide (X ≤ 57)) || (decide (X = 46) || (decide (X = 45) || decide (X = 95)))))) ∧ w = w' := by
  obtain ⟨R, hR⟩ : ∃ R, R = ((decide (97 ≤ X) && decide (X ≤ 122)) || ((decide (48 ≤ X) && decide (X ≤ 57)) || (decide (X = 46) || (decide (X = 45) || decide (X = 95))))) := ⟨_, rfl⟩
  rw [← hR]
  have HR := Lib.hid hR
  clear hR
  go_enter Tryz.func127, Tryz.ntmps127
  go_wp2
  all_goals go_ret
  all_goals
    refine ⟨congrArg (fun b => Ending.returned (Value.bool b)) ((?_ : _ = _).trans HR.out.symm), rfl⟩
    rw [Bool.eq_iff_iff]
    simp
    try omega
theorem isletter_any (x : UInt8) (w : World) :
    Calls Tryz.prog 127 #[.int .u8 (x.toNat : Int)] w fun e w' => e = .returned (.bool (letterB x)) ∧ w = w' := by
  rw [letter_num]
  exact isletter_n x.toNat w

/-- The function that or answers, of isLetter and a slash. -/
def lsFn (b1 b2 : Nat) : Value := .func (.func 131) #[] #[.pointer (some ⟨b1, 0, none⟩), .pointer (some ⟨b2, 0, none⟩)]
structure LsAt2 (b1 b2 : Nat) (w : World) : Prop where
  f : w.cell? ⟨b1, 0, none⟩ = some (.func (.func 127) #[] #[])
  s : w.cell? ⟨b2, 0, none⟩ = some (.string ⟨#[47]⟩)
end Go.Proofs.YtanbjifdcplmnaaGreatDoor
/- What layer 4's only returns, and strings.Cut at one byte. -/
namespace Go.Proofs.YtanbjifdcplmnaaGreatDoor
open Go.RowKit

set_option maxRecDepth 100000 in
set_option maxHeartbeats 1000000 in
theorem ls_any (x : UInt8) (b1 b2 : Nat) (w : World) (h : LsAt2 b1 b2 w) :
    Calls Tryz.prog 131 #[.int .u8 (x.toNat : Int), .pointer (some ⟨b1, 0, none⟩), .pointer (some ⟨b2, 0, none⟩)] w fun e w' => e = .returned (.bool (lsB x)) ∧ w = w' := by
  have h1 := h.f
  have h2 := h.s
  have C1 := Lib.hid (isletter_any x w)
  have C2 := Lib.hid (Tryz.strings_IndexByte ⟨#[47]⟩ (x.toNat : Int) w)
  have e2 : Lib.indexByte (⟨#[47]⟩ : ByteArray).data.toList (x.toNat : Int).toNat.toUInt8 = if x = 47 then 0 else -1 := by
    have ex : (x.toNat : Int).toNat.toUInt8 = x := by simp
    rw [ex]
    show Lib.indexByte [47] x = _
    simp only [Lib.indexByte]
    by_cases hx : x = 47
    · subst hx; rfl
    · have : ((47 : UInt8) == x) = false := beq_eq_false_iff_ne.2 (fun e => hx e.symm)
      rw [this, if_neg hx]; rfl
  have E2 := Lib.hid e2
  have hl : lsB x = (letterB x || decide (x = 47)) := by
    unfold lsB
    rw [Bool.or_comm]
    congr 1
  obtain ⟨R, hR⟩ : ∃ R, R = lsB x := ⟨_, rfl⟩
  rw [← hR]
  rw [← hR] at hl
  have HL := Lib.hid hl
  clear hl hR e2 h
  generalize Lib.indexByte (⟨#[47]⟩ : ByteArray).data.toList (x.toNat : Int).toNat.toUInt8 = I at *
  generalize letterB x = L at *
  generalize x.toNat = X at *
  go_enter Tryz.func131, Tryz.ntmps131
  go_wp2_with (first
    | (go_at_call 127; refine C1.out.mono ?_; rintro e w' ⟨rfl, rfl⟩; cases L)
    | (go_at_call 132; refine C2.out.mono ?_; rintro e w' ⟨rfl, rfl⟩)
    | fail)
  all_goals go_ret
  all_goals
    refine ⟨congrArg (fun b => Ending.returned (Value.bool b)) ((?_ : _ = _).trans HL.out.symm), rfl⟩
  all_goals (try rw [E2.out])
  all_goals (by_cases hx : x = 47 <;> simp [hx])

set_option maxRecDepth 100000 in
set_option maxHeartbeats 1000000 in
/-- only, asking isLetter. -/
theorem only_letter (s : ByteArray) (w : World) (hs : s.size ≤ 140737488355328) :
    Calls Tryz.prog 126 #[.string s, .func (.func 127) #[] #[]] w fun e w' => e = .returned (.bool (s.data.toList.all letterB)) ∧ w = w' := by
  have hsz : s.size = s.data.toList.length := Lib.size_eq s
  obtain ⟨R, hR⟩ : ∃ R, R = s.data.toList.all letterB := ⟨_, rfl⟩
  rw [← hR]
  have HR := Lib.hid hR
  have HS := Lib.hid hsz
  clear hR hsz
  go_enter Tryz.func126, Tryz.ntmps126
  go_wp2_with fail
  go_loop [8] (fun i => ∃ k : Nat, k ≤ s.size ∧ i = .int .i64 k ∧ Hid ((s.data.toList.take k).all letterB = true)) (fun i => s.size - (intOf i).toNat)
  case atStart => exact ⟨0, Nat.zero_le _, rfl, by show _ = _; simp⟩
  case round =>
    obtain ⟨k, hk, rfl, hp⟩ := hrel
    by_cases hlt : k < s.size
    · have hkl : k < s.data.toList.length := by rw [← HS.out]; exact hlt
      obtain ⟨x, hx⟩ : ∃ x, x = s.data.toList[k]'hkl := ⟨_, rfl⟩
      have hix : ∀ W, (Instr.index 9 (.string s) (.int .i64 (k : Int))).run Tryz.prog W = .ok (.int .u8 x.toNat) W := by
        intro W
        rw [hx]
        go_simp
        rfl
      have hstep : (s.data.toList.take (k + 1)).all letterB = letterB x := by
        rw [List.take_succ_eq_append_getElem hkl, List.all_append, hp.out, Bool.true_and, ← hx]
        simp
      have HST := Lib.hid hstep
      have C1 := Lib.hid (isletter_any x w)
      clear hx hstep
      have hkk : decide ((k : Int) < (s.size : Int)) = true := by simp; omega
      cases hlx : letterB x with
      | true =>
        rw [hlx] at C1 HST
        go_wp2_with (first
          | (go_at_call 127; refine C1.out.mono ?_; rintro e w' ⟨rfl, rfl⟩)
          | fail)
        go_round
        case rel => exact ⟨k + 1, by omega, by go_num, HST.out⟩
        case measure => simp [intOf]; omega
      | false =>
        rw [hlx] at C1 HST
        have hf : R = false := by
          rw [HR.out, ← List.take_append_drop (k + 1) s.data.toList, List.all_append, HST.out, Bool.false_and]
        subst hf
        go_wp2_with (first
          | (go_at_call 127; refine C1.out.mono ?_; rintro e w' ⟨rfl, rfl⟩)
          | fail)
        go_ret
        exact ⟨rfl, rfl⟩
    · obtain rfl : k = s.size := by omega
      have e : R = true := by
        have h := hp.out
        rw [HS.out, List.take_length] at h
        rw [HR.out, h]
      subst e
      have hkk : decide ((s.size : Int) < (s.size : Int)) = false := by simp
      go_wp2_with fail
      go_ret
      exact ⟨rfl, rfl⟩
set_option maxRecDepth 100000 in
set_option maxHeartbeats 1000000 in
/-- only, asking for a letter or a slash. -/
theorem only_ls (s : ByteArray) (b1 b2 : Nat) (w : World) (hat : LsAt2 b1 b2 w) (hs : s.size ≤ 140737488355328) :
    Calls Tryz.prog 126 #[.string s, lsFn b1 b2] w fun e w' => e = .returned (.bool (s.data.toList.all lsB)) ∧ w = w' := by
  unfold lsFn
  have hsz : s.size = s.data.toList.length := Lib.size_eq s
  obtain ⟨R, hR⟩ : ∃ R, R = s.data.toList.all lsB := ⟨_, rfl⟩
  rw [← hR]
  have HR := Lib.hid hR
  have HS := Lib.hid hsz
  clear hR hsz
  go_enter Tryz.func126, Tryz.ntmps126
  go_wp2_with fail
  go_loop [8] (fun i => ∃ k : Nat, k ≤ s.size ∧ i = .int .i64 k ∧ Hid ((s.data.toList.take k).all lsB = true)) (fun i => s.size - (intOf i).toNat)
  case atStart => exact ⟨0, Nat.zero_le _, rfl, by show _ = _; simp⟩
  case round =>
    obtain ⟨k, hk, rfl, hp⟩ := hrel
    by_cases hlt : k < s.size
    · have hkl : k < s.data.toList.length := by rw [← HS.out]; exact hlt
      obtain ⟨x, hx⟩ : ∃ x, x = s.data.toList[k]'hkl := ⟨_, rfl⟩
      have hix : ∀ W, (Instr.index 9 (.string s) (.int .i64 (k : Int))).run Tryz.prog W = .ok (.int .u8 x.toNat) W := by
        intro W
        rw [hx]
        go_simp
        rfl
      have hstep : (s.data.toList.take (k + 1)).all lsB = lsB x := by
        rw [List.take_succ_eq_append_getElem hkl, List.all_append, hp.out, Bool.true_and, ← hx]
        simp
      have HST := Lib.hid hstep
      have C1 := Lib.hid (ls_any x b1 b2 w hat)
      clear hx hstep
      have hkk : decide ((k : Int) < (s.size : Int)) = true := by simp; omega
      cases hlx : lsB x with
      | true =>
        rw [hlx] at C1 HST
        go_wp2_with (first
          | (go_at_call 131; refine C1.out.mono ?_; rintro e w' ⟨rfl, rfl⟩)
          | fail)
        go_round
        case rel => exact ⟨k + 1, by omega, by go_num, HST.out⟩
        case measure => simp [intOf]; omega
      | false =>
        rw [hlx] at C1 HST
        have hf : R = false := by
          rw [HR.out, ← List.take_append_drop (k + 1) s.data.toList, List.all_append, HST.out, Bool.false_and]
        subst hf
        go_wp2_with (first
          | (go_at_call 131; refine C1.out.mono ?_; rintro e w' ⟨rfl, rfl⟩)
          | fail)
        go_ret
        exact ⟨rfl, rfl⟩
    · obtain rfl : k = s.size := by omega
      have e : R = true := by
        have h := hp.out
        rw [HS.out, List.take_length] at h
        rw [HR.out, h]
      subst e
      have hkk : decide ((s.size : Int) < (s.size : Int)) = false := by simp
      go_wp2_with fail
      go_ret
      exact ⟨rfl, rfl⟩
/-- What strings.Cut answers at the one byte c. -/
def cutV (c : UInt8) (s : ByteArray) : Value := .tuple #[.string ⟨(ahead c s.data.toList).toArray⟩, .string ⟨(behind c s.data.toList).toArray⟩, .bool (hasB c s.data.toList)]

set_option maxRecDepth 100000 in
set_option maxHeartbeats 1000000 in
theorem index_any (s : ByteArray) (c : UInt8) (w : World) :
    Calls Tryz.prog 134 #[.string s, .string ⟨#[c]⟩] w fun e w' => e = .returned (.int .i64 (if hasB c s.data.toList = true then ((ahead c s.data.toList).length : Int) else -1)) ∧ w = w' := by
  have C1 := Lib.hid (Tryz.stringslite_IndexByte s (c.toNat : Int) w)
  have hi := index_ahead c s.data.toList
  have ec : (c.toNat : Int).toNat.toUInt8 = c := by simp
  obtain ⟨R, hR⟩ : ∃ R, R = (if hasB c s.data.toList = true then ((ahead c s.data.toList).length : Int) else -1) := ⟨_, rfl⟩
  rw [← hR]
  rw [← hR] at hi
  have HI := Lib.hid hi
  have HE := Lib.hid ec
  have HC : Hid (s = ⟨#[c]⟩ → R = 0) := fun e => by rw [← HI.out, e]; simp [Lib.indexByte]
  clear hi ec hR
  go_enter Tryz.func134, Tryz.ntmps134
  go_wp2_with (first
    | (go_at_call 135; refine C1.out.mono ?_; rintro e w' ⟨rfl, rfl⟩; rw [HE.out, HI.out])
    | fail)
  · have h : ([c] == s.toList) = true := by assumption
    go_ret
    refine ⟨?_, rfl⟩
    have e : s = ⟨#[c]⟩ := by
      have e1 : s.data.toList = [c] := by rw [← Lib.toList_data]; exact (beq_iff_eq.1 h).symm
      rw [← Lib.mk_data s, e1]
    rw [HC.out e]
    rfl
  · go_ret
    exact ⟨rfl, rfl⟩

set_option maxRecDepth 100000 in
set_option maxHeartbeats 1000000 in
theorem lcut_any (s : ByteArray) (c : UInt8) (w : World) (hs : s.size ≤ 140737488355328) :
    Calls Tryz.prog 130 #[.string s, .string ⟨#[c]⟩] w fun e w' => e = .returned (cutV c s) ∧ ∃ m, w' = w.drewN m := by
  have hsz : s.size = s.data.toList.length := Lib.size_eq s
  have hle := ahead_le c s.data.toList
  have C1 := Lib.hid (index_any s c w)
  unfold cutV
  by_cases hh : hasB c s.data.toList = true
  · have hlt : (ahead c s.data.toList).length < s.data.toList.length := by unfold hasB at hh; simpa using hh
    rw [if_pos hh] at C1
    have e1 : s.extract 0 (ahead c s.data.toList).length = ⟨(ahead c s.data.toList).toArray⟩ := by
      rw [Lib.extract_eq, List.drop_zero, Nat.sub_zero, ← ahead_take]
    have e2 : s.extract ((ahead c s.data.toList).length + 1) s.size = ⟨(behind c s.data.toList).toArray⟩ := by
      rw [Lib.extract_eq, hsz, List.take_of_length_le (by rw [List.length_drop]; exact Nat.le_refl _)]
      rfl
    rw [hh, ← e1, ← e2]
    generalize (ahead c s.data.toList).length = n at *
    have c1 : (0 : Int) ≤ ↑n := by omega
    have c2 : (↑n : Int) ≤ ↑s.size := by omega
    have c3 : (0 : Int) ≤ ↑n + 1 := by omega
    have c4 : (↑n + 1 : Int) ≤ ↑s.size := by omega
    have c5 : (↑n + 1 : Int) ≤ 140737488355328 := by omega
    have hwr : IntKind.i64.wrap ((n : Int) + 1) = (n : Int) + 1 := by rw [IntKind.wrap_i64]; omega
    have htn : ((n : Int) + 1).toNat = n + 1 := by omega
    clear hh e1 e2 hle hlt hsz
    go_enter Tryz.func130, Tryz.ntmps130
    go_wp2_with (go_at_call 134; refine C1.out.mono ?_; rintro e w' ⟨rfl, rfl⟩)
    go_region
    go_wp2
    go_ret3
    exact ⟨rfl, 1, rfl⟩
  · rw [Bool.not_eq_true] at hh
    have e1 := ahead_all hh
    have e2 := behind_nil hh
    rw [hh] at C1
    simp only [Bool.false_eq_true, if_false] at C1
    rw [hh, e1, e2, Lib.mk_data]
    clear hh e1 e2 hle hsz
    go_enter Tryz.func130, Tryz.ntmps130
    go_wp2_with (go_at_call 134; refine C1.out.mono ?_; rintro e w' ⟨rfl, rfl⟩)
    go_ret3
    exact ⟨rfl, 0, rfl⟩

set_option maxRecDepth 100000 in
set_option maxHeartbeats 1000000 in
theorem cut_any (s : ByteArray) (c : UInt8) (w : World) (hs : s.size ≤ 140737488355328) :
    Calls Tryz.prog 125 #[.string s, .string ⟨#[c]⟩] w fun e w' => e = .returned (cutV c s) ∧ ∃ m, w' = w.drewN m := by
  have C1 := Lib.hid (lcut_any s c w hs)
  unfold cutV at *
  go_enter Tryz.func125, Tryz.ntmps125
  go_wp2_with (go_at_call 130; refine C1.out.mono ?_; rintro e w' ⟨rfl, n, rfl⟩)
  go_ret3
  exact ⟨rfl, n, rfl⟩
end Go.Proofs.YtanbjifdcplmnaaGreatDoor
/- What the checks of layer 4 return: isName, checkDtn, checkIpn, check, Check, None; the sentinels that stand in the package's variables. -/
namespace Go.Proofs.YtanbjifdcplmnaaGreatDoor
open Go.RowKit

/-- Where the four sentinels' texts lie. -/
structure Snt where
  s : Addr
  n : Addr
  u : Addr
  f : Addr
def OneOf (A : Snt) (a : Addr) : Prop := a = A.s ∨ a = A.n ∨ a = A.u ∨ a = A.f
def snt (a : Addr) : Value := .iface 198 (.pointer (some a))
/-- The variables of the package. -/
structure Lds (A : Snt) (w : World) : Prop where
  cs : w.cell? ⟨2, 0, none⟩ = some (snt A.s)
  cn : w.cell? ⟨3, 0, none⟩ = some (snt A.n)
  cu : w.cell? ⟨4, 0, none⟩ = some (snt A.u)
  cf : w.cell? ⟨1, 0, none⟩ = some (snt A.f)
  row : ∀ a, OneOf A a → ∃ c t, w.heap[a.block]? = some (.cells c t (0, 0))
  ne : A.s ≠ A.n ∧ A.s ≠ A.u ∧ A.s ≠ A.f ∧ A.n ≠ A.u ∧ A.n ≠ A.f ∧ A.u ≠ A.f
theorem Lds.below {A : Snt} {w w' : World} {B : Nat} (h : Lds A w) (hb : Below B w w') (hB : w.heap.size ≤ B) : Lds A w' := by
  have k : ∀ {p : Addr} {v : Value}, w.cell? p = some v → w'.cell? p = some v := fun hc => (hb.cell (Nat.lt_of_lt_of_le (World.block_lt_of_cell? w _ hc) hB)).trans hc
  refine ⟨k h.cs, k h.cn, k h.cu, k h.cf, ?_, h.ne⟩
  · intro a ha
    obtain ⟨c, t, hc⟩ := h.row a ha
    have hl : a.block < w.heap.size := by
      rcases Nat.lt_or_ge a.block w.heap.size with h1 | h1
      · exact h1
      · rw [Array.getElem?_eq_none h1] at hc; cases hc
    exact ⟨c, t, (hb.block a.block (Nat.lt_of_lt_of_le hl hB)).trans hc⟩
theorem Lds.alloc {A : Snt} {w : World} (h : Lds A w) (o : Obj) : Lds A (w.alloc o) := h.below ((Below.refl _ _).alloc (Nat.le_refl _) o) (Nat.le_refl _)

theorem drewN_below {B : Nat} {w : World} (m : Nat) : Below B w (w.drewN m) := ⟨rfl, rfl, rfl, Nat.le_refl _, fun _ _ => rfl⟩

set_option maxRecDepth 100000 in
set_option maxHeartbeats 1000000 in
theorem or_any (w : World) :
    Calls Tryz.prog 128 #[.func (.func 127) #[] #[], .string ⟨#[47]⟩] w fun e w' => ∃ b1 b2, e = .returned (lsFn b1 b2) ∧ LsAt2 b1 b2 w' ∧ Below w.heap.size w w' := by
  go_enter Tryz.func128, Tryz.ntmps128
  go_wp2_with fail
  refine bodyPost_ret (v := lsFn w.heap.size (w.heap.size + 1)) (by simp [results, Tryz.results128, go_sem, lsFn]) rfl ⟨w.heap.size, w.heap.size + 1, rfl, ⟨?_, ?_⟩, ?_⟩
  · rw [World.cell?_alloc_lt _ _ _ (by simp)]; rw [World.cell?_alloc_at _ _ _ _ rfl]; rfl
  · rw [World.cell?_alloc_at _ _ _ _ (by simp)]; rfl
  · exact ((Below.refl _ _).alloc (Nat.le_refl _) _).alloc (by simp) _

set_option maxRecDepth 100000 in
set_option maxHeartbeats 1000000 in
theorem isname_any (s : ByteArray) (w : World) (hs : s.size ≤ 140737488355328) :
    Calls Tryz.prog 123 #[.string s] w fun e w' => e = .returned (.bool (nameB s.data.toList)) ∧ Below w.heap.size w w' := by
  have hsz : s.size = s.data.toList.length := Lib.size_eq s
  rw [← nameC_eq]
  obtain ⟨R, hR⟩ : ∃ R, R = nameC s.data.toList := ⟨_, rfl⟩
  rw [← hR]
  unfold nameC at hR
  by_cases h64 : 64 < s.size
  · have hr : R = false := by rw [hR, decide_eq_false (by omega)]; rfl
    subst hr
    clear hR hsz
    have h64i : decide ((64 : Int) < (s.size : Int)) = true := by simp; omega
    go_enter Tryz.func123, Tryz.ntmps123
    go_wp2_with fail
    go_ret
    exact ⟨rfl, Below.refl _ _⟩
  have h65 : s.size ≤ 64 := by omega
  rw [decide_eq_true (by omega), Bool.true_and] at hR
  have C1 := Lib.hid (Tryz.strings_CutPrefix s ⟨#[47, 47]⟩ w)
  have e47 : (⟨#[47, 47]⟩ : ByteArray).data.toList = [47, 47] := rfl
  rw [e47] at C1
  by_cases hp : Lib.hasPrefix s.data.toList [47, 47] = true
  · rw [hp, Bool.true_and] at hR
    have et : Lib.trimPrefix s.data.toList [47, 47] = s.data.toList.drop 2 := by unfold Lib.trimPrefix; rw [if_pos hp]; rfl
    rw [hp, et] at C1
    have hrl : (s.data.toList.drop 2).length ≤ 64 := by rw [List.length_drop]; omega
    generalize s.data.toList.drop 2 = r at *
    have C2 := Lib.hid (fun W => cut_any ⟨r.toArray⟩ 47 W (by rw [Lib.size_eq]; simp; omega))
    unfold cutV at C2
    rw [show (⟨r.toArray⟩ : ByteArray).data.toList = r by simp] at C2
    have hal := ahead_le 47 r
    have hbl : (behind 47 r).length ≤ 64 := by unfold behind; rw [List.length_drop]; omega
    by_cases hh : hasB 47 r = true
    · rw [hh, Bool.true_and] at hR
      rw [hh] at C2
      generalize ahead 47 r = u at *
      generalize behind 47 r = t at *
      have hus : (⟨u.toArray⟩ : ByteArray).data.toList = u := by simp
      have hts : (⟨t.toArray⟩ : ByteArray).data.toList = t := by simp
      have C3 := Lib.hid (fun W => only_letter ⟨u.toArray⟩ W (by rw [Lib.size_eq, hus]; omega))
      have C5 := Lib.hid (fun b1 b2 W h => only_ls ⟨t.toArray⟩ b1 b2 W h (by rw [Lib.size_eq, hts]; omega))
      rw [hus] at C3
      rw [hts] at C5
      clear hp et hrl hal hbl hh hsz hus hts
      have hue : (⟨u.toArray⟩ : ByteArray).toList.isEmpty = u.isEmpty := by rw [Lib.toList_data]
      generalize (⟨u.toArray⟩ : ByteArray) = us at *
      generalize (⟨t.toArray⟩ : ByteArray) = ts at *
      cases hui : u.isEmpty with
      | true =>
        rw [hui] at hue hR
        have hr : R = false := hR
        subst hr
        clear hR hui
        go_enter Tryz.func123, Tryz.ntmps123
        go_wp2_with (first
          | (go_at_call 124; refine C1.out.mono ?_; rintro e w' ⟨rfl, rfl⟩)
          | (go_at_call 125; refine (C2.out _).mono ?_; rintro e w' ⟨rfl, m, rfl⟩)
          | fail)
        go_ret
        exact ⟨rfl, drewN_below m⟩
      | false =>
        rw [hui] at hue hR
        have hR2 : R = (u.all letterB && t.all lsB) := hR
        clear hR hui
        generalize t.all lsB = T at *
        cases hul : u.all letterB with
        | false =>
          rw [hul] at C3 hR2
          have hr : R = false := hR2
          subst hr
          clear hR2 hul
          go_enter Tryz.func123, Tryz.ntmps123
          go_wp2_with (first
            | (go_at_call 124; refine C1.out.mono ?_; rintro e w' ⟨rfl, rfl⟩)
            | (go_at_call 125; refine (C2.out _).mono ?_; rintro e w' ⟨rfl, m, rfl⟩)
            | (go_at_call 126; refine (C3.out _).mono ?_; rintro e w' ⟨rfl, rfl⟩)
            | fail)
          go_ret
          exact ⟨rfl, drewN_below m⟩
        | true =>
          rw [hul] at C3 hR2
          have hr : R = T := hR2
          subst hr
          clear hR2 hul
          go_enter Tryz.func123, Tryz.ntmps123
          go_wp2_with (first
            | (go_at_call 124; refine C1.out.mono ?_; rintro e w' ⟨rfl, rfl⟩)
            | (go_at_call 125; refine (C2.out _).mono ?_; rintro e w' ⟨rfl, m, rfl⟩)
            | fail)
          refine (C3.out _).mono ?_
          rintro e w1 ⟨rfl, rfl⟩
          go_wp2_with fail
          refine (or_any _).mono ?_
          rintro e w2 ⟨b1, b2, rfl, hat, hb⟩
          have C6 := Lib.hid (C5.out b1 b2 w2 hat)
          have HB := Lib.hid hb
          clear hat hb C5
          unfold lsFn at *
          go_wp2_with fail
          refine C6.out.mono ?_
          rintro e w3 ⟨rfl, rfl⟩
          go_wp2_with fail
          go_ret
          exact ⟨rfl, (drewN_below m).trans HB.out⟩
    · rw [Bool.not_eq_true] at hh
      rw [hh, Bool.false_and] at hR
      rw [hh] at C2
      subst hR
      generalize (⟨(ahead 47 r).toArray⟩ : ByteArray) = us at *
      generalize (⟨(behind 47 r).toArray⟩ : ByteArray) = ts at *
      clear hh hal hbl hrl hsz
      go_enter Tryz.func123, Tryz.ntmps123
      go_wp2_with (first
        | (go_at_call 124; refine C1.out.mono ?_; rintro e w' ⟨rfl, rfl⟩)
        | (go_at_call 125; refine (C2.out _).mono ?_; rintro e w' ⟨rfl, m, rfl⟩)
        | fail)
      go_ret
      exact ⟨rfl, drewN_below m⟩
  · rw [Bool.not_eq_true] at hp
    rw [hp, Bool.false_and] at hR
    rw [hp] at C1
    subst hR
    have hrs : (⟨(Lib.trimPrefix s.data.toList [47, 47]).toArray⟩ : ByteArray).size ≤ 64 := by
      unfold Lib.trimPrefix
      rw [hp, Lib.size_eq]
      simp
      omega
    generalize (⟨(Lib.trimPrefix s.data.toList [47, 47]).toArray⟩ : ByteArray) = r at *
    have C2 := Lib.hid (fun W => cut_any r 47 W (by omega))
    unfold cutV at C2
    generalize (⟨(ahead 47 r.data.toList).toArray⟩ : ByteArray) = us at *
    generalize (⟨(behind 47 r.data.toList).toArray⟩ : ByteArray) = ts at *
    generalize hasB 47 r.data.toList = H at *
    clear hp hsz
    go_enter Tryz.func123, Tryz.ntmps123
    go_wp2_with (first
      | (go_at_call 124; refine C1.out.mono ?_; rintro e w' ⟨rfl, rfl⟩)
      | (go_at_call 125; refine (C2.out _).mono ?_; rintro e w' ⟨rfl, m, rfl⟩)
      | fail)
    go_ret
    exact ⟨rfl, drewN_below m⟩
/-- An endpoint as it stands in slots. -/
def epdV (sc : Int) (s : ByteArray) (n v : Nat) : Value := .agg #[.int .i64 sc, .string s, .int .u64 (n : Int), .int .u64 (v : Int)]
def ep (sc : Int) (s : ByteArray) (n v : Nat) : Epd := ⟨sc, s.data.toList, n, v⟩
/-- Why an endpoint may not be: nil where it may. -/
def Why (A : Snt) (b : Bool) (w : World) (e : Ending) (w' : World) : Prop := Below w.heap.size w w' ∧ ((b = true ∧ e = .returned .nilIface) ∨ (b = false ∧ ∃ a, OneOf A a ∧ e = .returned (snt a)))

theorem str_empty (s : ByteArray) : s.toList.isEmpty = s.data.toList.isEmpty := by rw [Lib.toList_data]

set_option maxRecDepth 100000 in
set_option maxHeartbeats 1000000 in
theorem checkdtn_any (A : Snt) (s : ByteArray) (n v : Nat) (w : World) (hA : Lds A w) (hs : s.size ≤ 140737488355328) :
    Calls Tryz.prog 118 #[epdV 1 s n v] w (Why A (checkB (ep 1 s n v)) w) := by
  obtain ⟨R, hR⟩ : ∃ R, R = checkB (ep 1 s n v) := ⟨_, rfl⟩
  rw [← hR]
  have hR2 : R = ((n == 0 && v == 0) && (s.data.toList.isEmpty || nameB s.data.toList)) := by rw [hR]; unfold checkB; rw [if_pos (show (ep 1 s n v).scheme = 1 from rfl)]; rfl
  clear hR
  have C1 := Lib.hid (fun W => isname_any s W hs)
  have hse := str_empty s
  unfold epdV
  have HA := Lib.hid hA
  have gu : (w.alloc (.cells #[.int .i64 1, .string s, .int .u64 (n : Int), .int .u64 (v : Int)] 46)).cell? ⟨4, 0, none⟩ = some (snt A.u) := (hA.alloc _).cu
  have gn : (w.alloc (.cells #[.int .i64 1, .string s, .int .u64 (n : Int), .int .u64 (v : Int)] 46)).cell? ⟨3, 0, none⟩ = some (snt A.n) := (hA.alloc _).cn
  clear hA
  unfold snt at gu gn
  have gg : ∀ (w2 : World), Below (w.alloc (.cells #[.int .i64 1, .string s, .int .u64 (n : Int), .int .u64 (v : Int)] 46)).heap.size (w.alloc (.cells #[.int .i64 1, .string s, .int .u64 (n : Int), .int .u64 (v : Int)] 46)) w2 → w2.cell? ⟨3, 0, none⟩ = some (.iface 198 (.pointer (some A.n))) := fun w2 hb => (((HA.out.alloc _).below hb (Nat.le_refl _)).cn)
  have GG := Lib.hid gg
  clear gg
  by_cases h0 : n = 0 ∧ v = 0
  · obtain ⟨rfl, rfl⟩ := h0
    have hR3 : R = (s.data.toList.isEmpty || nameB s.data.toList) := hR2
    clear hR2
    cases he : s.data.toList.isEmpty with
    | true =>
      rw [he] at hR3 hse
      have hr : R = true := hR3
      subst hr
      clear hR3 he
      go_enter Tryz.func118, Tryz.ntmps118
      go_wp2_with fail
      go_ret
      exact ⟨(Below.refl _ _).alloc (Nat.le_refl _) _, .inl ⟨rfl, rfl⟩⟩
    | false =>
      rw [he] at hR3 hse
      have hr : R = nameB s.data.toList := hR3
      generalize nameB s.data.toList = N at *
      subst hr
      clear hR3 he
      cases R with
      | true =>
        go_enter Tryz.func118, Tryz.ntmps118
        go_wp2_with fail
        refine (C1.out _).mono ?_
        rintro e w1 ⟨rfl, hb⟩
        have HB := Lib.hid hb
        clear hb
        go_wp2_with fail
        go_ret
        exact ⟨((Below.refl _ _).alloc (Nat.le_refl _) _).trans (HB.out.mono (le_alloc _ _)), .inl ⟨rfl, rfl⟩⟩
      | false =>
        go_enter Tryz.func118, Tryz.ntmps118
        go_wp2_with fail
        refine (C1.out _).mono ?_
        rintro e w1 ⟨rfl, hb⟩
        have g1 := GG.out _ hb
        have HB := Lib.hid hb
        clear hb
        go_wp2_with fail
        go_ret
        exact ⟨((Below.refl _ _).alloc (Nat.le_refl _) _).trans (HB.out.mono (le_alloc _ _)), .inr ⟨rfl, A.n, .inr (.inl rfl), rfl⟩⟩
  · have hr : R = false := by
      rw [hR2]
      have : (n == 0 && v == 0) = false := by
        rw [Bool.eq_false_iff]
        intro h
        simp at h
        exact h0 h
      rw [this, Bool.false_and]
    subst hr
    clear hR2
    have h1 : ¬ ((n : Int) = 0 ∧ (v : Int) = 0) := by omega
    clear h0 GG HA C1 hse
    generalize (n : Int) = N at *
    generalize (v : Int) = V at *
    by_cases hn : N = 0
    · subst hn
      have hv : ¬ V = 0 := fun h => h1 ⟨rfl, h⟩
      clear h1
      go_enter Tryz.func118, Tryz.ntmps118
      go_wp2_with fail
      go_ret
      exact ⟨(Below.refl _ _).alloc (Nat.le_refl _) _, .inr ⟨rfl, A.u, .inr (.inr (.inl rfl)), rfl⟩⟩
    · clear h1
      go_enter Tryz.func118, Tryz.ntmps118
      go_wp2_with fail
      go_ret
      exact ⟨(Below.refl _ _).alloc (Nat.le_refl _) _, .inr ⟨rfl, A.u, .inr (.inr (.inl rfl)), rfl⟩⟩
end Go.Proofs.YtanbjifdcplmnaaGreatDoor
/- errors.Is over the chains of layer 4: a sentinel, or a fault by value round such a chain; and numberOf. -/
namespace Go.Proofs.YtanbjifdcplmnaaGreatDoor
open Go.RowKit Go.Extern.Stop Go.Stop Go.Extern

/-- A chain of so many faults that ends in the sentinel at a. -/
inductive Ch (A : Snt) : Nat → Value → Addr → Prop
  | leaf (a : Addr) : OneOf A a → Ch A 0 (snt a) a
  | wrap (k : Nat) (s : ByteArray) (t : TypeId) (v : Value) (a : Addr) : Ch A k (.iface t v) a → Ch A (k + 1) (.iface 134 (.agg #[.string s, .iface t v])) a

theorem isTypeOf (v : Value) (w : World) : (Extern.ReflectliteType.typeOf #[.iface 198 v]).run Tryz.prog w = .ok (.iface 155 (.agg #[.pointer (some ⟨6, 198, none⟩)])) w := by kernel_rfl
theorem isComparable (w : World) : ((Extern.ReflectliteType.method fun t => do Extern.Rtype.noPackHeld "Comparable" t; (fun a => Value.bool a.comparable) <$> typeInfo t) #[.agg #[.pointer (some ⟨6, 198, none⟩)]]).run Tryz.prog w = .ok (.bool true) w := by kernel_rfl
theorem isMethodComparable (n : Nat) (v : Value) (w : World) : (Go.method (n + 8) 155 v "Comparable").run Tryz.prog w = .ok (167, v) w := by kernel_rfl
theorem isComp : (Tryz.prog.info? 198).map (·.comparable) = some true := by kernel_rfl
theorem isSize : (Tryz.prog.info? 219).map (·.size) = some 1 := by kernel_rfl

theorem noIsE (v : Value) (xT : TypeId) (w : World) : (Instr.typeAssert (.iface 198 v) xT 182 true).run Tryz.prog w = .ok (.tuple #[.nilIface, .bool false]) w := run_typeAssert_lacksB Tryz.underlying182 (by kernel_rfl) (by kernel_rfl) v xT w
theorem noUnwrapE (v : Value) (xT : TypeId) (w : World) : (Instr.typeAssert (.iface 198 v) xT 163 true).run Tryz.prog w = .ok (.tuple #[.nilIface, .bool false]) w := run_typeAssert_lacksB Tryz.underlying163 (by kernel_rfl) (by kernel_rfl) v xT w
theorem noUnwrapsE (v : Value) (xT : TypeId) (w : World) : (Instr.typeAssert (.iface 198 v) xT 165 true).run Tryz.prog w = .ok (.tuple #[.nilIface, .bool false]) w := run_typeAssert_lacksB Tryz.underlying165 (by kernel_rfl) (by kernel_rfl) v xT w
theorem noIsW (v : Value) (xT : TypeId) (w : World) : (Instr.typeAssert (.iface 134 v) xT 182 true).run Tryz.prog w = .ok (.tuple #[.nilIface, .bool false]) w := run_typeAssert_lacksB Tryz.underlying182 (by kernel_rfl) (by kernel_rfl) v xT w
theorem hasUnwrapW (v : Value) (xT : TypeId) (w : World) : (Instr.typeAssert (.iface 134 v) xT 163 true).run Tryz.prog w = .ok (.tuple #[.iface 134 v, .bool true]) w := run_typeAssert_hasB Tryz.underlying163 (by kernel_rfl) v xT w
theorem methodUnwrap (n : Nat) (v : Value) (w : World) : (Go.method (n + 8) 134 v "Unwrap").run Tryz.prog w = .ok (163, v) w := by kernel_rfl

/-- How many links a chain has, by its value. -/
def links : Nat → Value → Nat
  | 0, _ => 0
  | n + 1, .iface _ (.agg #[_, v]) => links n v + 1
  | _ + 1, _ => 0
theorem Ch.len {A : Snt} {k : Nat} {E : Value} {a : Addr} (h : Ch A k E a) : ∀ n, k < n → links n E = k := by
  induction h with
  | leaf a _ =>
    intro n hn
    obtain ⟨m, rfl⟩ : ∃ m, n = m + 1 := ⟨n - 1, by omega⟩
    rfl
  | wrap k s t v a h ih =>
    intro n hn
    obtain ⟨m, rfl⟩ : ∃ m, n = m + 1 := ⟨n - 1, by omega⟩
    show links m (.iface t v) + 1 = k + 1
    rw [ih m (by omega)]
theorem Ch.one {A : Snt} {k : Nat} {E : Value} {a : Addr} (h : Ch A k E a) : OneOf A a := by
  induction h with
  | leaf a h => exact h
  | wrap k s t v a h ih => exact ih

set_option maxRecDepth 1000000 in
set_option maxHeartbeats 4000000 in
theorem is_any (A : Snt) (k : Nat) (E : Value) (a b : Addr) (w : World) (hA : Lds A w) (hch : Ch A k E a) (hk : k ≤ 8) (hob : OneOf A b) :
    Calls Tryz.prog 103 #[E, snt b, .bool true] w fun e w' => e = .returned (.bool (decide (a = b))) ∧ Below w.heap.size w w' := by
  obtain ⟨i, hi, hcmp⟩ := Option.map_eq_some_iff.1 isComp
  obtain ⟨j, hj, hjs⟩ := Option.map_eq_some_iff.1 isSize
  have nE := noIsE
  have uE := noUnwrapE
  have vE := noUnwrapsE
  have nW := noIsW
  have uW := hasUnwrapW
  have mU := methodUnwrap
  have HA := Lib.hid hA
  have HCH := Lib.hid hch
  obtain ⟨R, hR⟩ : ∃ R, R = decide (a = b) := ⟨_, rfl⟩
  rw [← hR]
  have HR := Lib.hid hR
  clear hA hch hR
  unfold snt
  go_enter Tryz.func103, Tryz.ntmps103
  go_wp2_with fail
  go_loopw [0] (fun E' wl => Hid (Below w.heap.size w wl) ∧ ∃ k', k' ≤ 8 ∧ Ch A k' E' a) (fun E' _ => links 9 E')
  case atStart => exact ⟨Below.refl _ _, k, hk, HCH.out⟩
  case round =>
    obtain ⟨HB, k', hk', hc'⟩ := hrel
    have hA2 := HA.out.below HB.out (Nat.le_refl _)
    obtain ⟨cb, tb, hb⟩ := hA2.row b hob
    have hlen0 := hc'.len 9 (by omega)
    cases hc' with
    | leaf a hoa =>
      obtain ⟨ca, ta, ha⟩ := hA2.row a hoa
      unfold snt at *
      by_cases hab : a = b
      · subst hab
        have hr : R = true := by rw [HR.out]; simp
        subst hr
        have heq := run_eql_iface_ptr_same (P := Tryz.prog) wr a Tryz.underlying60 Tryz.underlying198 hi hcmp hj
        clear hA2
        go_wp2_with fail
        go_ret
        exact ⟨rfl, HB.out⟩
      · have hr : R = false := by rw [HR.out]; simp [hab]
        subst hr
        have heq := run_eql_iface_ptr_other (P := Tryz.prog) wr Tryz.underlying60 Tryz.underlying198 hi hcmp hj (by rw [hjs]; decide) hab ha hb
        clear hA2
        go_wp2_with fail
        go_ret
        exact ⟨rfl, HB.out⟩
    | wrap k1 s t v a h1 =>
      have hty := run_eql_iface_types (P := Tryz.prog) 134 198 (.agg #[.string s, .iface t v]) (.pointer (some b)) Tryz.underlying60 (by decide) wr
      have hlen := h1.len 9 (by omega)
      have q1 := fun (W : World) (u : TypeId) (x : Value) => run_eql_iface_nil (P := Tryz.prog) (w := W) 60 (by kernel_rfl) u x
      have HC := Lib.hid h1
      have HL := Lib.hid hlen
      have HL0 := Lib.hid hlen0
      clear h1 hA2 hlen hlen0
      go_wp2
      go_roundw
      case rel => exact ⟨HB.out.trans (((Below.refl _ _).alloc (Nat.le_refl _) _).mono HB.out.size), k1, by omega, HC.out⟩
      case measure =>
        show links 9 (.iface t v) < _
        rw [HL.out, HL0.out]
        exact Nat.lt_succ_self _

set_option maxRecDepth 1000000 in
set_option maxHeartbeats 4000000 in
/-- errors.Is of a chain. -/
theorem eis_any (A : Snt) (k : Nat) (E : Value) (a b : Addr) (w : World) (hA : Lds A w) (hch : Ch A k E a) (hk : k ≤ 8) (hob : OneOf A b) :
    Calls Tryz.prog 77 #[E, snt b] w fun e w' => e = .returned (.bool (decide (a = b))) ∧ Below w.heap.size w w' := by
  have h8 := @run_callFunc_extern Tryz.prog 94 _ Extern.ReflectliteType.typeOf Tryz.func94 (by kernel_rfl) (by kernel_rfl) (by kernel_rfl) (by kernel_rfl)
  have h32 := @run_callFunc_extern Tryz.prog 167 _ (Extern.ReflectliteType.method fun t => do Extern.Rtype.noPackHeld "Comparable" t; pure (.bool (← typeInfo t).comparable)) Tryz.func167 (by kernel_rfl) (by kernel_rfl) (by kernel_rfl) (by kernel_rfl)
  have tT := isTypeOf
  have cT := isComparable
  have mR := isMethodComparable
  have C1 := Lib.hid (is_any A k E a b w hA hch hk hob)
  have q1 := fun (W : World) (u : TypeId) (x : Value) => run_eql_iface_nil (P := Tryz.prog) (w := W) 60 (by kernel_rfl) u x
  generalize decide (a = b) = R at *
  obtain ⟨t, v, rfl⟩ : ∃ t v, E = .iface t v := by cases hch <;> exact ⟨_, _, rfl⟩
  clear hA hch hob
  unfold snt at *
  go_enter Tryz.func77, Tryz.ntmps77
  go_wp2_with (first
    | (go_at_call 103; refine C1.out.mono ?_; rintro e w1 ⟨rfl, hb⟩; have HB := Lib.hid hb; clear hb)
    | go_in)
  go_ret
  exact ⟨rfl, HB.out⟩

set_option maxRecDepth 1000000 in
set_option maxHeartbeats 4000000 in
/-- errors.Is of nil. -/
theorem eis_nil (b : Addr) (w : World) :
    Calls Tryz.prog 77 #[.nilIface, snt b] w fun e w' => e = .returned (.bool false) ∧ w = w' := by
  have hn := fun (W : World) (p : Value) => run_eql_iface_nil_left (P := Tryz.prog) W 198 p Tryz.underlying60
  unfold snt
  go_enter Tryz.func77, Tryz.ntmps77
  go_wp2
  go_ret
  exact ⟨rfl, rfl⟩

set_option maxRecDepth 100000 in
set_option maxHeartbeats 4000000 in
theorem number_nil (A : Snt) (w : World) (hA : Lds A w) :
    Calls Tryz.prog 52 #[.nilIface] w fun e w' => e = .returned (.int .i64 0) ∧ w = w' := by
  have cs := hA.cs
  have cn := hA.cn
  have cu := hA.cu
  have cf := hA.cf
  clear hA
  unfold snt at *
  have C1 := Lib.hid (fun b => eis_nil b w)
  unfold snt at *
  go_enter Tryz.func52, Tryz.ntmps52
  go_wp2_with (first
    | (go_at_call 77; refine (C1.out _).mono ?_; rintro e w1 ⟨rfl, rfl⟩)
    | fail)
  go_ret
  exact ⟨rfl, rfl⟩

set_option maxRecDepth 100000 in
set_option maxHeartbeats 4000000 in
theorem number_ch (A : Snt) (k : Nat) (E : Value) (a : Addr) (w : World) (hA : Lds A w) (hch : Ch A k E a) (hk : k ≤ 8) :
    Calls Tryz.prog 52 #[E] w fun e w' => e = .returned (.int .i64 40) ∧ Below w.heap.size w w' := by
  have L1 := fun (W : World) (hb : Below w.heap.size w W) => hA.below hb (Nat.le_refl _)
  have C1 := Lib.hid (fun (b : Addr) (W : World) (hb : Below w.heap.size w W) (ho : OneOf A b) => eis_any A k E a b W (L1 W hb) hch hk ho)
  have G : ∀ W, Below w.heap.size w W → W.cell? ⟨2, 0, none⟩ = some (snt A.s) ∧ W.cell? ⟨3, 0, none⟩ = some (snt A.n) ∧ W.cell? ⟨4, 0, none⟩ = some (snt A.u) ∧ W.cell? ⟨1, 0, none⟩ = some (snt A.f) := fun W hb => ⟨(L1 W hb).cs, (L1 W hb).cn, (L1 W hb).cu, (L1 W hb).cf⟩
  have G0 := G w (Below.refl _ _)
  obtain ⟨g1, g2, g3, g4⟩ := G0
  have HG := Lib.hid G
  have ho := hch.one
  have HO := Lib.hid hA.ne
  clear G hA hch L1
  unfold snt at *
  go_enter Tryz.func52, Tryz.ntmps52
  go_wp2_with fail
  refine (C1.out A.s _ (Below.refl _ _) (.inl rfl)).mono ?_
  rintro e w1 ⟨rfl, hb1⟩
  have G1 := HG.out w1 hb1
  have HB1 := Lib.hid hb1
  clear hb1 g1 g2 g3 g4
  obtain ⟨g1, g2, g3, g4⟩ := G1
  by_cases a1 : a = A.s
  · rw [decide_eq_true a1]
    clear a1 ho
    go_wp2_with fail
    go_ret
    exact ⟨rfl, HB1.out⟩
  rw [decide_eq_false a1]
  go_wp2_with fail
  refine (C1.out A.n _ HB1.out (.inr (.inl rfl))).mono ?_
  rintro e w2 ⟨rfl, hb2⟩
  have hb2' := HB1.out.trans (hb2.mono HB1.out.size)
  have G1 := HG.out w2 hb2'
  have HB2 := Lib.hid hb2'
  clear hb2 hb2' g1 g2 g3 g4
  obtain ⟨g1, g2, g3, g4⟩ := G1
  by_cases a2 : a = A.n
  · rw [decide_eq_true a2]
    clear a1 a2 ho
    go_wp2_with fail
    go_ret
    exact ⟨rfl, HB2.out⟩
  rw [decide_eq_false a2]
  go_wp2_with fail
  refine (C1.out A.u _ HB2.out (.inr (.inr (.inl rfl)))).mono ?_
  rintro e w3 ⟨rfl, hb3⟩
  have hb3' := HB2.out.trans (hb3.mono HB2.out.size)
  have G1 := HG.out w3 hb3'
  have HB3 := Lib.hid hb3'
  clear hb3 hb3' g1 g2 g3 g4
  obtain ⟨g1, g2, g3, g4⟩ := G1
  by_cases a3 : a = A.u
  · rw [decide_eq_true a3]
    clear a1 a2 a3 ho
    go_wp2_with fail
    go_ret
    exact ⟨rfl, HB3.out⟩
  rw [decide_eq_false a3]
  have a4 : a = A.f := by
    rcases ho with h | h | h | h
    · exact absurd h a1
    · exact absurd h a2
    · exact absurd h a3
    · exact h
  go_wp2_with fail
  refine (C1.out A.f _ HB3.out (.inr (.inr (.inr rfl)))).mono ?_
  rintro e w4 ⟨rfl, hb4⟩
  have HB4 := Lib.hid (HB3.out.trans (hb4.mono HB3.out.size))
  clear hb4 g1 g2 g3 g4
  rw [decide_eq_true a4]
  clear a1 a2 a3 a4 ho
  go_wp2_with fail
  go_ret
  exact ⟨rfl, HB4.out⟩
theorem number_nilB (A : Snt) (w : World) (hA : Lds A w) :
    Calls Tryz.prog 52 #[.nilIface] w fun e w' => e = .returned (.int .i64 0) ∧ Below w.heap.size w w' :=
  (number_nil A w hA).mono (by rintro e w' ⟨rfl, rfl⟩; exact ⟨rfl, Below.refl _ _⟩)

theorem put4_cell_ {W : World} {g : Nat} {p : Addr} {u v0 v1 v2 v3 : Value} (h : W.cell? p = some u) (hg : ¬ g = p.block) : ((((W.setCell ⟨g, 0, none⟩ v0).setCell ⟨g, 1, none⟩ v1).setCell ⟨g, 2, none⟩ v2).setCell ⟨g, 3, none⟩ v3).cell? p = some u := by
  rw [World.cell?_setCell_far _ _ _ _ hg, World.cell?_setCell_far _ _ _ _ hg, World.cell?_setCell_far _ _ _ _ hg, World.cell?_setCell_far _ _ _ _ hg]
  exact h
end Go.Proofs.YtanbjifdcplmnaaGreatDoor
/- What checkIpn, check, Check and None of layer 4 return. -/
namespace Go.Proofs.YtanbjifdcplmnaaGreatDoor
open Go.RowKit

set_option maxRecDepth 100000 in
set_option maxHeartbeats 1000000 in
theorem checkipn_any (A : Snt) (s : ByteArray) (n v : Nat) (w : World) (hA : Lds A w) :
    Calls Tryz.prog 119 #[epdV 2 s n v] w (Why A (checkB (ep 2 s n v)) w) := by
  obtain ⟨R, hR⟩ : ∃ R, R = checkB (ep 2 s n v) := ⟨_, rfl⟩
  rw [← hR]
  have hR2 : R = (s.data.toList.isEmpty && (decide (0 < n) && (decide (n ≤ 4294967295) && decide (v ≤ 4294967295)))) := by rw [hR]; unfold checkB; rw [if_neg (show ¬ (ep 2 s n v).scheme = 1 by show ¬ (2 : Int) = 1; decide)]; rfl
  clear hR
  have hse := str_empty s
  unfold epdV
  have gu : (w.alloc (.cells #[.int .i64 2, .string s, .int .u64 (n : Int), .int .u64 (v : Int)] 46)).cell? ⟨4, 0, none⟩ = some (snt A.u) := (hA.alloc _).cu
  have gn : (w.alloc (.cells #[.int .i64 2, .string s, .int .u64 (n : Int), .int .u64 (v : Int)] 46)).cell? ⟨3, 0, none⟩ = some (snt A.n) := (hA.alloc _).cn
  clear hA
  unfold snt at gu gn
  have hN : (decide (0 < n) && (decide (n ≤ 4294967295) && decide (v ≤ 4294967295))) = (decide ¬ ((n : Int) = 0) && (decide ¬ (4294967295 < (n : Int)) && decide ¬ (4294967295 < (v : Int)))) := by
    rw [Bool.eq_iff_iff]; simp; omega
  rw [hN] at hR2
  clear hN
  generalize (n : Int) = N at *
  generalize (v : Int) = V at *
  cases he : s.data.toList.isEmpty with
  | false =>
    rw [he] at hse hR2
    have hr : R = false := hR2
    subst hr
    clear hR2 he
    go_enter Tryz.func119, Tryz.ntmps119
    go_wp2_with fail
    go_ret
    exact ⟨(Below.refl _ _).alloc (Nat.le_refl _) _, .inr ⟨rfl, A.n, .inr (.inl rfl), rfl⟩⟩
  | true =>
    rw [he] at hse hR2
    clear he
    by_cases h1 : N = 0
    · subst h1
      have hr : R = false := by rw [hR2]; simp
      subst hr
      clear hR2
      go_enter Tryz.func119, Tryz.ntmps119
      go_wp2_with fail
      go_ret
      exact ⟨(Below.refl _ _).alloc (Nat.le_refl _) _, .inr ⟨rfl, A.u, .inr (.inr (.inl rfl)), rfl⟩⟩
    by_cases h2 : 4294967295 < N
    · have hr : R = false := by rw [hR2]; simp; omega
      subst hr
      clear hR2
      go_enter Tryz.func119, Tryz.ntmps119
      go_wp2_with fail
      go_ret
      exact ⟨(Below.refl _ _).alloc (Nat.le_refl _) _, .inr ⟨rfl, A.u, .inr (.inr (.inl rfl)), rfl⟩⟩
    have h2' : N ≤ 4294967295 := by omega
    by_cases h3 : 4294967295 < V
    · have hr : R = false := by rw [hR2]; simp; omega
      subst hr
      clear hR2
      go_enter Tryz.func119, Tryz.ntmps119
      go_wp2_with fail
      go_ret
      exact ⟨(Below.refl _ _).alloc (Nat.le_refl _) _, .inr ⟨rfl, A.u, .inr (.inr (.inl rfl)), rfl⟩⟩
    have h3' : V ≤ 4294967295 := by omega
    have hr : R = true := by rw [hR2]; simp; omega
    subst hr
    clear hR2
    go_enter Tryz.func119, Tryz.ntmps119
    go_wp2_with fail
    go_ret
    exact ⟨(Below.refl _ _).alloc (Nat.le_refl _) _, .inl ⟨rfl, rfl⟩⟩

theorem Why.boxed {A : Snt} {b : Bool} {w : World} {o : Obj} {e : Ending} {w' : World} (h : Why A b (w.alloc o) e w') : Why A b w e w' :=
  ⟨((Below.refl _ _).alloc (Nat.le_refl _) o).trans (h.1.mono (le_alloc _ _)), h.2⟩

set_option maxRecDepth 100000 in
set_option maxHeartbeats 1000000 in
theorem echeck_any (A : Snt) (sc : Int) (s : ByteArray) (n v : Nat) (w : World) (hA : Lds A w) (hs : s.size ≤ 140737488355328) :
    Calls Tryz.prog 101 #[epdV sc s n v] w (Why A (checkB (ep sc s n v)) w) := by
  have gs : (w.alloc (.cells #[.int .i64 sc, .string s, .int .u64 (n : Int), .int .u64 (v : Int)] 46)).cell? ⟨2, 0, none⟩ = some (snt A.s) := (hA.alloc _).cs
  unfold snt at gs
  by_cases h1 : sc = 1
  · subst h1
    have C1 := Lib.hid (checkdtn_any A s n v (w.alloc (.cells #[.int .i64 1, .string s, .int .u64 (n : Int), .int .u64 (v : Int)] 46)) (hA.alloc _) hs)
    clear hA gs
    generalize checkB (ep 1 s n v) = R at *
    unfold epdV at *
    go_enter Tryz.func101, Tryz.ntmps101
    go_wp2_with fail
    refine C1.out.mono ?_
    intro e w1 hy
    have HY := Lib.hid hy.boxed
    obtain ⟨hb, ⟨hc, rfl⟩ | ⟨hc, a, ha, rfl⟩⟩ := hy
    · clear hb hc
      go_wp2_with fail
      go_ret
      exact HY.out
    · clear hb hc ha
      unfold snt at *
      go_wp2_with fail
      go_ret
      exact HY.out
  by_cases h2 : sc = 2
  · subst h2
    have C1 := Lib.hid (checkipn_any A s n v (w.alloc (.cells #[.int .i64 2, .string s, .int .u64 (n : Int), .int .u64 (v : Int)] 46)) (hA.alloc _))
    clear hA gs
    generalize checkB (ep 2 s n v) = R at *
    unfold epdV at *
    go_enter Tryz.func101, Tryz.ntmps101
    go_wp2_with fail
    refine C1.out.mono ?_
    intro e w1 hy
    have HY := Lib.hid hy.boxed
    obtain ⟨hb, ⟨hc, rfl⟩ | ⟨hc, a, ha, rfl⟩⟩ := hy
    · clear hb hc
      go_wp2_with fail
      go_ret
      exact HY.out
    · clear hb hc ha
      unfold snt at *
      go_wp2_with fail
      go_ret
      exact HY.out
  have hr : checkB (ep sc s n v) = false := by
    unfold checkB
    rw [if_neg (show ¬ (ep sc s n v).scheme = 1 from h1)]
    have : ((ep sc s n v).scheme == 2) = false := beq_eq_false_iff_ne.2 h2
    rw [this, Bool.false_and]
  rw [hr]
  clear hr
  unfold epdV at *
  go_enter Tryz.func101, Tryz.ntmps101
  go_wp2_with fail
  go_ret
  exact ⟨(Below.refl _ _).alloc (Nat.le_refl _) _, .inr ⟨rfl, A.s, .inl rfl, rfl⟩⟩

set_option maxRecDepth 100000 in
set_option maxHeartbeats 1000000 in
theorem none_any (sc : Int) (s : ByteArray) (n v : Nat) (w : World) :
    Calls Tryz.prog 120 #[epdV sc s n v] w fun e w' => e = .returned (.bool (noneB (ep sc s n v))) ∧ Below w.heap.size w w' := by
  obtain ⟨R, hR⟩ : ∃ R, R = noneB (ep sc s n v) := ⟨_, rfl⟩
  rw [← hR]
  have HR := Lib.hid hR
  clear hR
  unfold epdV
  go_enter Tryz.func120, Tryz.ntmps120
  go_wp2_with fail
  all_goals go_ret
  all_goals
    refine ⟨congrArg (fun b => Ending.returned (Value.bool b)) ((?_ : _ = _).trans HR.out.symm), (Below.refl _ _).alloc (Nat.le_refl _) _⟩
    unfold noneB ep
    simp [← Lib.toList_data, *]
end Go.Proofs.YtanbjifdcplmnaaGreatDoor
/- Chosen by shake.py of the texts of the layers below: what dec_any need. -/
section
namespace Go.Proofs.YtanbjifdcplmnaaGreatDoor
open Go.RowKit
/-- The array's content: the digits suf from place f on. -/
def decRow (f : Nat) (suf : List UInt8) : Nat → Value := fun j => if f ≤ j then .int .u8 ((suf.getD (j - f) 0).toNat : Int) else .int .u8 0
theorem dig10 (d : Nat) (h : d < 16) (h10 : d < 10) : Value.int .u8 (((⟨#[48, 49, 50, 51, 52, 53, 54, 55, 56, 57, 97, 98, 99, 100, 101, 102]⟩ : ByteArray)[d]'h).toNat : Int) = .int .u8 ((UInt8.ofNat (48 + d)).toNat : Int) := by
  have : ∀ d : Fin 10, (⟨#[48, 49, 50, 51, 52, 53, 54, 55, 56, 57, 97, 98, 99, 100, 101, 102]⟩ : ByteArray)[d.val]'(Nat.lt_of_lt_of_le d.isLt (by decide)) = UInt8.ofNat (48 + d.val) := by decide +kernel
  rw [this ⟨d, h10⟩]
theorem decRow_step (a f : Nat) (suf : List UInt8) (j : Nat) (hf : 1 ≤ f) (_hs : f ≤ 20) (_hj : j < 20) {h : a % 10 < 16} :
    (if j = f - 1 then Value.int .u8 (((⟨#[48, 49, 50, 51, 52, 53, 54, 55, 56, 57, 97, 98, 99, 100, 101, 102]⟩ : ByteArray)[a % 10]'h).toNat : Int) else decRow f suf j) = decRow (f - 1) (UInt8.ofNat (48 + a % 10) :: suf) j := by
  rw [dig10 _ h (by omega)]
  unfold decRow
  by_cases e : j = f - 1
  · subst e
    rw [if_pos rfl, if_pos (Nat.le_refl _), Nat.sub_self]
    rfl
  · rw [if_neg e]
    by_cases h2 : f ≤ j
    · rw [if_pos h2, if_pos (by omega), show j - (f - 1) = (j - f) + 1 by omega]
      simp [List.getD]
    · rw [if_neg h2, if_neg (by omega)]
theorem decRow_set {w : World} {b f : Nat} {t : TypeId} {suf : List UInt8} (hrow : w.rowIs b t 20 (decRow f suf)) (a : Nat) (hf : 1 ≤ f) (hf20 : f ≤ 20) (h : a % 10 < 16) :
    (w.setCell ⟨b, f - 1, none⟩ (Value.int .u8 (((⟨#[48, 49, 50, 51, 52, 53, 54, 55, 56, 57, 97, 98, 99, 100, 101, 102]⟩ : ByteArray)[a % 10]'h).toNat : Int))).rowIs b t 20 (decRow (f - 1) (UInt8.ofNat (48 + a % 10) :: suf)) :=
  (World.rowIs.set hrow (f - 1) _).congr fun j hj => decRow_step a f suf j hf hf20 hj
end Go.Proofs.YtanbjifdcplmnaaGreatDoor
end
/- What ipnText, Text and Node of layer 4 return. -/
namespace Go.Proofs.YtanbjifdcplmnaaGreatDoor
open Go.RowKit
open Go.Lib (decDigits)

def strL (l : List UInt8) : ByteArray := ⟨l.toArray⟩
theorem strL_app (a b : List UInt8) : strL a ++ strL b = strL (a ++ b) := by
  apply ByteArray.ext
  unfold strL
  simp [ByteArray.data_append]
theorem strL_data (s : ByteArray) : strL s.data.toList = s := Lib.mk_data s
theorem strL_list (l : List UInt8) : (strL l).data.toList = l := by unfold strL; simp
theorem strL_size (l : List UInt8) : (strL l).size = l.length := by rw [Lib.size_eq, strL_list]
theorem nd20 (n : Nat) (h : n < 18446744073709551616) : (decDigits n).length ≤ 20 := by
  have key : ∀ (k n : Nat), n < 10 ^ (k + 1) → (decDigits n).length ≤ k + 1 := by
    intro k
    induction k with
    | zero => intro n hn; rw [dec_small (by omega)]; simp
    | succ k ih =>
      intro n hn
      by_cases h10 : n < 10
      · rw [dec_small h10]; simp
      · rw [dec_big h10, List.length_append]
        have := ih (n / 10) (by rw [Nat.div_lt_iff_lt_mul (by decide)]; rw [Nat.pow_succ] at hn; exact hn)
        simp only [List.length_singleton]
        omega
  exact key 19 n (Nat.lt_of_lt_of_le h (by decide))

/-- The four cells of a box of its own, behind what leaves them. -/
theorem box_cells4 {w w' : World} {c0 c1 c2 c3 : Value} {t : TypeId} (h : Below (w.alloc (.cells #[c0, c1, c2, c3] t)).heap.size (w.alloc (.cells #[c0, c1, c2, c3] t)) w') :
    w'.cell? ⟨w.heap.size, 0, none⟩ = some c0 ∧ w'.cell? ⟨w.heap.size, 1, none⟩ = some c1 ∧ w'.cell? ⟨w.heap.size, 2, none⟩ = some c2 ∧ w'.cell? ⟨w.heap.size, 3, none⟩ = some c3 := by
  refine ⟨?_, ?_, ?_, ?_⟩ <;> (rw [h.cell (by simp), World.cell?_alloc_at _ _ _ _ rfl]; rfl)
theorem ep_name (sc : Int) (s : ByteArray) (n v : Nat) : (ep sc s n v).name = s.data.toList := rfl

end Go.Proofs.YtanbjifdcplmnaaGreatDoor
/- What speltNumbers and spelt of layer 4 return: the one endpoint whose text this could be. -/
namespace Go.Proofs.YtanbjifdcplmnaaGreatDoor
open Go.RowKit
/-- An endpoint's cells, zeros of its own. -/
theorem zeroE {w W' : World} {g : Nat} (hg : g = w.heap.size) (h : Below (g + 1) (w.alloc (.cells #[.int .i64 0, .string ⟨#[]⟩, .int .u64 0, .int .u64 0] 46)) W') :
    (W'.cell? ⟨g, 0, none⟩ = some (.int .i64 0) ∧ W'.cell? ⟨g, 1, none⟩ = some (.string ⟨#[]⟩) ∧ W'.cell? ⟨g, 2, none⟩ = some (.int .u64 0) ∧ W'.cell? ⟨g, 3, none⟩ = some (.int .u64 0)) ∧
    (W'.frozen? ⟨g, 0, none⟩ = false ∧ W'.frozen? ⟨g, 1, none⟩ = false ∧ W'.frozen? ⟨g, 2, none⟩ = false ∧ W'.frozen? ⟨g, 3, none⟩ = false) := by
  subst hg
  exact ⟨box_cells4 (h.mono (by simp)), (h.frozen (p := ⟨w.heap.size, 0, none⟩) (Nat.lt_succ_self _)).trans (by simp), (h.frozen (p := ⟨w.heap.size, 1, none⟩) (Nat.lt_succ_self _)).trans (by simp), (h.frozen (p := ⟨w.heap.size, 2, none⟩) (Nat.lt_succ_self _)).trans (by simp), (h.frozen (p := ⟨w.heap.size, 3, none⟩) (Nat.lt_succ_self _)).trans (by simp)⟩

theorem below_put4 {B g : Nat} {w W' : World} {u0 u1 u2 u3 : Value} (h : Below B w W') (hg : B ≤ g) : Below B w ((((W'.setCell ⟨g, 0, none⟩ u0).setCell ⟨g, 1, none⟩ u1).setCell ⟨g, 2, none⟩ u2).setCell ⟨g, 3, none⟩ u3) :=
  (((h.setCell (p := ⟨g, 0, none⟩) hg _).setCell (p := ⟨g, 1, none⟩) hg _).setCell (p := ⟨g, 2, none⟩) hg _).setCell (p := ⟨g, 3, none⟩) hg _

end Go.Proofs.YtanbjifdcplmnaaGreatDoor
/- What spelt, parsed and Parse of layer 4 return. -/
namespace Go.Proofs.YtanbjifdcplmnaaGreatDoor
open Go.RowKit

theorem str_ne {s : ByteArray} {l : List UInt8} (h : s.data.toList ≠ l) : (s.toList == l) = false ∧ (l == s.toList) = false := by
  rw [Lib.toList_data]
  exact ⟨beq_eq_false_iff_ne.2 h, beq_eq_false_iff_ne.2 (fun e => h e.symm)⟩

end Go.Proofs.YtanbjifdcplmnaaGreatDoor
/- The plain mathematics of layer 6: bundles, the bytes that they are. No program's number stands here but the sums' (CrcR). -/
namespace Go.Proofs.YtanbjifdcplmnaaGreatDoor

/-! ### Endpoints' items -/
theorem letter_plain {c : UInt8} (h : lsB c = true) : (decide (32 ≤ c.toNat) && decide (c.toNat ≤ 126)) = true := by
  have h0 : ∀ v : Fin 256, lsB (UInt8.ofNat v.val) = true → (decide (32 ≤ (UInt8.ofNat v.val).toNat) && decide ((UInt8.ofNat v.val).toNat ≤ 126)) = true := by decide +kernel
  have := h0 ⟨c.toNat, c.toNat_lt⟩
  simp only [UInt8.ofNat_toNat] at this
  exact this h
theorem name_plain {s : List UInt8} (h : nameB s = true) : plain s = true := by
  obtain ⟨r, rfl, h2, -⟩ := name_head h
  have hr : (r.all fun c => decide (32 ≤ c.toNat) && decide (c.toNat ≤ 126)) = true := List.all_eq_true.2 fun c hc => letter_plain (List.all_eq_true.1 h2 c hc)
  unfold plain
  rw [List.all_cons, List.all_cons, hr]
  decide
theorem itemE_good {e : Epd} (h : checkB e = true) : right (itemE e) = true ∧ dep (itemE e) ≤ 2 ∧ par (itemE e) ≤ 5 := by
  by_cases h1 : e.scheme = 1
  · obtain ⟨hn, hs, hm⟩ := check_dtn h h1
    unfold itemE
    rw [if_neg (by omega)]
    by_cases h0 : e.name = []
    · rw [if_pos h0]
      exact ⟨by simp [right, rights, own], by simp [dep, deps], by simp [par, pars]⟩
    · rw [if_neg h0]
      have hp := name_plain (hm.resolve_left h0)
      exact ⟨by simp [right, rights, own, hp], by simp [dep, deps], by simp [par, pars]⟩
  · obtain ⟨h2, hm, -⟩ := check_ipn h h1
    unfold itemE
    rw [if_pos h2]
    exact ⟨by simp [right, rights, own], by simp [dep, deps], by simp [par, pars]⟩
theorem itemE_siz {e : Epd} (h : checkB e = true) : Siz (itemE e) := by
  by_cases h1 : e.scheme = 1
  · obtain ⟨hn, hs, hm⟩ := check_dtn h h1
    unfold itemE
    rw [if_neg (by omega)]
    by_cases h0 : e.name = []
    · rw [if_pos h0]
      exact ⟨by decide, by simp, by simp, ⟨by rw [h1]; decide, by simp, by simp, trivial⟩, ⟨by decide, by simp, by simp, trivial⟩, trivial⟩
    · rw [if_neg h0]
      obtain ⟨r, hr, -, -, -, hl⟩ := name_head (hm.resolve_left h0)
      exact ⟨by decide, by simp, by simp, ⟨by rw [h1]; decide, by simp, by simp, trivial⟩, ⟨by decide, by omega, by simp, trivial⟩, trivial⟩
  · obtain ⟨h2, hm, -, h3, h4⟩ := check_ipn h h1
    unfold itemE
    rw [if_pos h2]
    exact ⟨by decide, by simp, by simp, ⟨by rw [h2]; decide, by simp, by simp, trivial⟩, ⟨by decide, by simp, by simp, ⟨by omega, by simp, by simp, trivial⟩, ⟨by omega, by simp, by simp, trivial⟩, trivial⟩, trivial⟩
theorem wri_4 (l : List Itm) : wri (.mk 4 0 [] l) = hd 4 l.length ++ wrs l := by rw [wri, if_neg (by decide), if_neg (by decide), if_pos rfl]
theorem wri_t (d : List UInt8) : wri (.mk 3 0 d []) = hd 3 d.length ++ d := by rw [wri, if_neg (by decide), if_pos (by decide)]; rfl
theorem wri_itemE_len {e : Epd} (h : checkB e = true) : (wri (itemE e)).length ≤ 110 := by
  have hl : ∀ m n, (hd m n).length ≤ 9 := fun m n => by rw [hd_len]; have := hsz_le n; omega
  have a0 := hl 4 2
  have a1 := hl 0 e.scheme.toNat
  by_cases h1 : e.scheme = 1
  · obtain ⟨hn, hs, hm⟩ := check_dtn h h1
    unfold itemE
    rw [if_neg (by omega), wri_4]
    by_cases h0 : e.name = []
    · rw [if_pos h0]
      have a3 := hl 0 0
      simp only [wrs, wri_u, List.length_append, List.length_cons, List.length_nil, Nat.zero_add, Nat.reduceAdd, List.append_nil]
      omega
    · rw [if_neg h0]
      obtain ⟨r, hr, -, -, -, hl2⟩ := name_head (hm.resolve_left h0)
      have a3 := hl 3 e.name.length
      simp only [wrs, wri_u, wri_t, List.length_append, List.length_cons, List.length_nil, Nat.zero_add, Nat.reduceAdd, List.append_nil]
      omega
  · obtain ⟨h2, hm, -⟩ := check_ipn h h1
    unfold itemE
    rw [if_pos h2, wri_4]
    have a3 := hl 0 e.node
    have a4 := hl 0 e.service
    simp only [wrs, wri_u, wri_4, List.length_append, List.length_cons, List.length_nil, Nat.zero_add, Nat.reduceAdd, List.append_nil]
    omega

/-! ### Bundles -/
/-- A bundle: flags, kind of sum, to, from, report to, time, sequence, life, blocks. -/
structure Bun where
  flg : Nat
  crc : Int
  dst : Epd
  src : Epd
  rep : Epd
  tim : Nat
  seq : Nat
  lif : Nat
  blks : List Blk
/-- Do the flags tell a fragment? -/
def fragB (f : Nat) : Bool := Go.bits BinOp.and IntKind.u64 (f : Int) 1 != 0
/-- Do they ask that the bundle stays whole, and for no report? -/
def wholeB (f : Nat) : Bool := Go.bits BinOp.and IntKind.u64 (f : Int) 475140 == 4
/-- Stands such a block once? -/
def singB (t : Nat) : Bool := decide (t = 10) || (decide (t = 7) || decide (t = 6))
/-- May these blocks stand behind those? -/
def frm (a : List Blk) : List Blk → Bool
  | [] => true
  | x :: r => blkOk x && ((decide (x.typ = 1) == r.isEmpty) && ((!(a.any fun y => decide (y.num = x.num))) && ((!(singB x.typ && a.any fun y => decide (y.typ = x.typ))) && frm (a ++ [x]) r)))
def blksOk (l : List Blk) : Bool := decide (1 ≤ l.length ∧ l.length ≤ 16) && frm [] l
def primOk (b : Bun) : Bool := decide (0 ≤ b.crc ∧ b.crc ≤ 2) && ((checkB b.dst && (checkB b.src && checkB b.rep)) && ((!(noneB b.dst)) && (!(noneB b.src && !(wholeB b.flg)))))
/-- Check's number. -/
def cauU (b : Bun) : Int := if fragB b.flg = true then 62 else if primOk b = true ∧ blksOk b.blks = true then 0 else 60
/-- Its numbers are below 2^64, its texts no longer than any machine's. -/
def BdE (e : Epd) : Prop := e.name.length ≤ 140737488355328 ∧ e.node < 18446744073709551616 ∧ e.service < 18446744073709551616
def BdP (b : Bun) : Prop := b.flg < 18446744073709551616 ∧ b.tim < 18446744073709551616 ∧ b.seq < 18446744073709551616 ∧ b.lif < 18446744073709551616
/-- What a primary block asks of its bundle, to be written. -/
def Wr (b : Bun) : Prop := (0 ≤ b.crc ∧ b.crc ≤ 2) ∧ checkB b.dst = true ∧ checkB b.src = true ∧ checkB b.rep = true
def partsP (b : Bun) : List Itm := [.mk 0 7 [] [], .mk 0 b.flg [] [], .mk 0 b.crc.toNat [] [], itemE b.dst, itemE b.src, itemE b.rep, .mk 4 0 [] [.mk 0 b.tim [] [], .mk 0 b.seq [] []], .mk 0 b.lif [] []]
/-- A primary block's item, with a sum's bytes. -/
def itmP (b : Bun) (s : List UInt8) : Itm := .mk 4 0 [] (partsP b ++ if b.crc = 0 then [] else [.mk 2 0 s []])
def bodyP (b : Bun) : List UInt8 := hd 4 (if b.crc = 0 then 8 else 9) ++ (wrs (partsP b) ++ if b.crc = 0 then [] else hd 2 (sumN b.crc))
def nullsP (b : Bun) : List UInt8 := List.replicate (sumN b.crc) 0
theorem nullsP_len (b : Bun) : (nullsP b).length = sumN b.crc := by simp [nullsP]
def sumP (b : Bun) : List UInt8 := crcBytes b.crc (bodyP b ++ nullsP b)
def primW (b : Bun) : List UInt8 := bodyP b ++ sumP b
theorem sumP_len (b : Bun) : (sumP b).length = sumN b.crc := crcBytes_len _ _
theorem wri_itmP (b : Bun) (s : List UInt8) (hs : s.length = sumN b.crc) : wri (itmP b s) = bodyP b ++ s := by
  unfold itmP
  rw [wri, if_neg (by decide), if_neg (by decide), if_pos rfl]
  unfold bodyP
  by_cases h0 : b.crc = 0
  · have : s = [] := List.eq_nil_of_length_eq_zero (by rw [hs, h0]; rfl)
    subst this
    simp only [if_pos h0, List.append_nil]
    rw [show (partsP b).length = 8 from rfl]
  · simp only [if_neg h0]
    rw [wrs_ap, show (partsP b ++ [Itm.mk 2 0 s []]).length = 9 from rfl, wrs, wri_b, wrs, hs]
    simp [List.append_assoc]
theorem itmP_fits {b : Bun} (s : List UInt8) (h : Wr b) : Fits (itmP b s) := by
  obtain ⟨-, hd, hs, hr⟩ := h
  obtain ⟨d1, d2, d3⟩ := itemE_good hd
  obtain ⟨s1, s2, s3⟩ := itemE_good hs
  obtain ⟨r1, r2, r3⟩ := itemE_good hr
  unfold itmP partsP
  by_cases h0 : b.crc = 0
  · simp only [if_pos h0]
    exact ⟨by simp [right, rights, own, d1, s1, r1], by simp [dep, deps]; omega, by simp [par, pars]; omega⟩
  · simp only [if_neg h0]
    exact ⟨by simp [right, rights, own, d1, s1, r1], by simp [dep, deps]; omega, by simp [par, pars]; omega⟩
theorem itmP_siz {b : Bun} (s : List UInt8) (h : Wr b) (hb : BdP b) (hs : s.length < 18446744073709551616) : Siz (itmP b s) := by
  obtain ⟨hc, hd, hsr, hr⟩ := h
  obtain ⟨h1, h2, h3, h4⟩ := hb
  have h5 : b.crc.toNat < 18446744073709551616 := by omega
  have d1 := itemE_siz hd
  have s1 := itemE_siz hsr
  have r1 := itemE_siz hr
  unfold itmP partsP
  have hrow : ∀ t : List Itm, Sizs t → Sizs ([.mk 0 7 [] [], .mk 0 b.flg [] [], .mk 0 b.crc.toNat [] [], itemE b.dst, itemE b.src, itemE b.rep, .mk 4 0 [] [.mk 0 b.tim [] [], .mk 0 b.seq [] []], .mk 0 b.lif [] []] ++ t) := fun t ht =>
    ⟨⟨by decide, by simp, by simp, trivial⟩, ⟨h1, by simp, by simp, trivial⟩, ⟨h5, by simp, by simp, trivial⟩, d1, s1, r1, ⟨by decide, by simp, by simp, ⟨h2, by simp, by simp, trivial⟩, ⟨h3, by simp, by simp, trivial⟩, trivial⟩, ⟨h4, by simp, by simp, trivial⟩, ht⟩
  by_cases h0 : b.crc = 0
  · simp only [if_pos h0]
    exact ⟨by decide, by simp, by simp, hrow [] trivial⟩
  · simp only [if_neg h0]
    exact ⟨by decide, by simp, by simp, hrow _ ⟨⟨by decide, hs, by simp, trivial⟩, trivial⟩⟩
theorem bodyP_len {b : Bun} (h : Wr b) : (bodyP b).length ≤ 450 := by
  obtain ⟨-, d0, s0, r0⟩ := h
  have d1 := wri_itemE_len d0
  have s1 := wri_itemE_len s0
  have r1 := wri_itemE_len r0
  have hl : ∀ m n, (hd m n).length ≤ 9 := fun m n => by rw [hd_len]; have := hsz_le n; omega
  unfold bodyP partsP
  have h1 := hl 4 (if b.crc = 0 then 8 else 9)
  have h2 := hl 0 7
  have h3 := hl 0 b.flg
  have h4 := hl 0 b.crc.toNat
  have h5 := hl 0 b.tim
  have h6 := hl 0 b.seq
  have h7 := hl 0 b.lif
  have h8 := hl 4 2
  have h9 := hl 2 (sumN b.crc)
  simp only [wrs, wri_u, wri_4, List.length_append, List.length_cons, List.length_nil, Nat.zero_add, Nat.reduceAdd, List.append_nil]
  generalize (hd 4 (if b.crc = 0 then 8 else 9)).length = q at *
  by_cases h0 : b.crc = 0
  · rw [if_pos h0, List.length_nil]; omega
  · rw [if_neg h0]; omega
theorem bodyP_pos (b : Bun) : 1 ≤ (bodyP b).length := by unfold bodyP; simp only [List.length_append, hd_len]; omega
theorem primW_len {b : Bun} (h : Wr b) : (primW b).length ≤ 454 := by
  unfold primW
  rw [List.length_append, sumP_len]
  have := bodyP_len h
  have := sumN_le b.crc
  omega
theorem primW_lenE (b : Bun) : (primW b).length = (bodyP b).length + sumN b.crc := by unfold primW; rw [List.length_append, sumP_len]
/-- A primary block's bytes are its item's. -/
theorem prim_dec {b : Bun} (h : Wr b) (hb : BdP b) (m : List UInt8) : decode (primW b ++ m) = (itmP b (sumP b), ((primW b).length : Int), 0) := by
  have hw := wri_itmP b (sumP b) (sumP_len b)
  have := decode_wr (itmP_fits (sumP b) h) (itmP_siz (sumP b) h hb (by rw [sumP_len]; have := sumN_le b.crc; omega)) m
  rw [hw] at this
  exact this

/-- The blocks' bytes. -/
def blkWs : List Blk → List UInt8 | [] => [] | x :: r => blkW x ++ blkWs r
theorem blkWs_app : ∀ a b : List Blk, blkWs (a ++ b) = blkWs a ++ blkWs b
  | [], b => rfl
  | x :: r, b => by rw [List.cons_append, blkWs, blkWs, blkWs_app r b, List.append_assoc]
/-- A bundle's bytes. -/
def bunW (b : Bun) : List UInt8 := 0x9f :: (primW b ++ (blkWs b.blks ++ [0xff]))

theorem primOk_iff {b : Bun} : primOk b = true ↔ Wr b ∧ noneB b.dst = false ∧ (noneB b.src = true → wholeB b.flg = true) := by
  unfold primOk Wr
  simp only [Bool.and_eq_true, decide_eq_true_eq, Bool.not_eq_true', Bool.and_eq_false_iff, Bool.not_eq_false']
  constructor
  · rintro ⟨h1, ⟨h2, h3, h4⟩, h5, h6⟩
    exact ⟨⟨h1, h2, h3, h4⟩, h5, fun h => h6.resolve_left (by rw [h]; decide)⟩
  · rintro ⟨⟨h1, h2, h3, h4⟩, h5, h6⟩
    refine ⟨h1, ⟨h2, h3, h4⟩, h5, ?_⟩
    cases hn : noneB b.src
    · exact .inl rfl
    · exact .inr (h6 hn)
theorem cauU_0 {b : Bun} : cauU b = 0 ↔ fragB b.flg = false ∧ primOk b = true ∧ blksOk b.blks = true := by
  unfold cauU
  cases fragB b.flg <;> by_cases h : primOk b = true ∧ blksOk b.blks = true <;> simp [h] <;> simp_all
/-- A primary block stands at the beginning of bytes. -/
def PrimAt (l : List UInt8) (b : Bun) : Prop := Wr b ∧ BdP b ∧ ∃ m, l = primW b ++ m
theorem PrimAt.dec {l : List UInt8} {b : Bun} (h : PrimAt l b) : decode l = (itmP b (sumP b), ((primW b).length : Int), 0) := by
  obtain ⟨h1, h2, m, rfl⟩ := h
  exact prim_dec h1 h2 m
end Go.Proofs.YtanbjifdcplmnaaGreatDoor
/- append of a slice, perhaps of no element, onto one that the call owns; rows beside. No program's functions. -/
namespace Go.Proofs.YtanbjifdcplmnaaGreatDoor
open Go.RowKit

theorem run_append_z {P : Program} (w : World) (t ty : TypeId) (base : Nat) (e : TypeId) (i : TypeInfo) (z : Value) (size bytes : Nat) (ht : P.underlying t = some (.slice e)) (hi : P.info? e = some i) (hz : i.zero = some z)
    (hsize : i.size = size) (hby : i.bytes = bytes) (hzs : z.cells.size = size) (hsz : 0 < size)
    (g0 cap0 n : Nat) (xs : List Value) (hown : w.ownsRow base e size (.slice (some ⟨g0, 0, none⟩) n cap0) n xs)
    (ad : Addr) (m c : Nat) (news : List Value) (hl : news.length = m * size) (hnews : ∀ j u, news[j]? = some u → w.cell? (ad.add j) = some u) (h1 : ∀ u ∈ news, u.oneCell' = true)
    (h63 : n + m ≤ maxLen) (hbytes : (n + m) * bytes ≤ 140737488355328) (hbase : base ≤ w.heap.size) :
    ∃ g cap w', (Builtin.append_ #[t, t] ty #[.slice (some ⟨g0, 0, none⟩) n cap0, .slice (some ad) m c]).run P w = .ok (.slice (some ⟨g, 0, none⟩) (n + m) cap) w' ∧
      w'.ownsRow base e size (.slice (some ⟨g, 0, none⟩) (n + m) cap) (n + m) (xs ++ news) ∧ w.grownBy w' (some g0) ∧ (g = g0 ∨ g = w.heap.size) ∧ g < w'.heap.size := by
  obtain ⟨v', w', hr, h2, h3, h4, h5⟩ := run_append_own_at (P := P) w base t ty e i z size bytes ht hi hz hsize hby hzs hsz _ n xs hown ad m c news hl hnews h1 h63 hbytes hbase
  rcases h2.2 with ⟨rfl, _⟩ | ⟨g, cap, cur, rfl, hb, hg, _⟩
  · have := (h4.1 rfl).1
    cases this
  refine ⟨g, cap, w', hr, h2, h3, ?_, ?_⟩
  · rcases h5 with h5 | h5
    · left; simpa [Value.ownBlock] using h5
    · right; simpa [Value.ownBlock] using h5
  · rcases Nat.lt_or_ge g w'.heap.size with hlt | hge
    · exact hlt
    · rw [Array.getElem?_eq_none hge] at hg; cases hg

theorem step_append_z {P : Program} {w : World} {ops : Array Oper} {o : Oper} {a : Act} {K : Act → World → Prop} {Q : Exit → Act → World → Prop} {E : Prop} (hgd : o.guard = none) (s x : Operand) (t : TypeId)
    (ho : o.op = .call { callee := .builtin .append, args := #[s, x], argTypes := #[t, t] })
    (base : Nat) (e : TypeId) (i : TypeInfo) (z : Value) (size bytes : Nat) (ht : P.underlying t = some (.slice e)) (hi : P.info? e = some i) (hz : i.zero = some z)
    (hsize : i.size = size) (hby : i.bytes = bytes) (hzs : z.cells.size = size) (hsz : 0 < size)
    (g0 cap0 n : Nat) (xs : List Value) (hs : a.eval s = .slice (some ⟨g0, 0, none⟩) n cap0) (hown : w.ownsRow base e size (.slice (some ⟨g0, 0, none⟩) n cap0) n xs)
    (ad : Addr) (m c : Nat) (news : List Value) (hx : a.eval x = .slice (some ad) m c) (hl : news.length = m * size) (hnews : ∀ j u, news[j]? = some u → w.cell? (ad.add j) = some u) (h1 : ∀ u ∈ news, u.oneCell' = true)
    (h63 : n + m ≤ maxLen) (hbytes : (n + m) * bytes ≤ 140737488355328) (hbase : base ≤ w.heap.size)
    (h : ∀ g cap w', w'.ownsRow base e size (.slice (some ⟨g, 0, none⟩) (n + m) cap) (n + m) (xs ++ news) → w.grownBy w' (some g0) → (g = g0 ∨ g = w.heap.size) → g < w'.heap.size → K (a.put o.dst (.slice (some ⟨g, 0, none⟩) (n + m) cap)) w') :
    if Region.wanted o (yielded ops a.tmps) = true then Oper.wp P o a w K Q else E := by
  have hw : Region.wanted o (yielded ops a.tmps) = true := by simp [Region.wanted, hgd]
  rw [if_pos hw]
  obtain ⟨g, cap, w', hr, h2, h3, h4, h5⟩ := run_append_z (P := P) w t o.type base e i z size bytes ht hi hz hsize hby hzs hsz g0 cap0 n xs hown ad m c news hl hnews h1 h63 hbytes hbase
  unfold Oper.wp execOp
  simp only [ho, resolve, invoke, builtin, Sem.run_bind, Sem.run_pure, Result.andThen_ok, List.map_toArray, List.map_cons, List.map_nil, hs, hx, hr]
  exact h g cap w' h2 h3 h4 h5

theorem wpList_append_z {P : Program} {w : World} {ops : Array Oper} {rest : List Oper} {o : Oper} {a : Act} {Q : Exit → Act → World → Prop} (hgd : o.guard = none) (s x : Operand) (t : TypeId)
    (ho : o.op = .call { callee := .builtin .append, args := #[s, x], argTypes := #[t, t] })
    (base : Nat) (e : TypeId) (i : TypeInfo) (z : Value) (size bytes : Nat) (ht : P.underlying t = some (.slice e)) (hi : P.info? e = some i) (hz : i.zero = some z)
    (hsize : i.size = size) (hby : i.bytes = bytes) (hzs : z.cells.size = size) (hsz : 0 < size)
    (g0 cap0 n : Nat) (xs : List Value) (hs : a.eval s = .slice (some ⟨g0, 0, none⟩) n cap0) (hown : w.ownsRow base e size (.slice (some ⟨g0, 0, none⟩) n cap0) n xs)
    (ad : Addr) (m c : Nat) (news : List Value) (hx : a.eval x = .slice (some ad) m c) (hl : news.length = m * size) (hnews : ∀ j u, news[j]? = some u → w.cell? (ad.add j) = some u) (h1 : ∀ u ∈ news, u.oneCell' = true)
    (h63 : n + m ≤ maxLen) (hbytes : (n + m) * bytes ≤ 140737488355328) (hbase : base ≤ w.heap.size)
    (h : ∀ g cap w', w'.ownsRow base e size (.slice (some ⟨g, 0, none⟩) (n + m) cap) (n + m) (xs ++ news) → w.grownBy w' (some g0) → (g = g0 ∨ g = w.heap.size) → g < w'.heap.size → wpList P ops Q rest (a.put o.dst (.slice (some ⟨g, 0, none⟩) (n + m) cap)) w') :
    wpList P ops Q (o :: rest) a w := by
  refine wpList_plain hgd fun _ hK => ?_
  obtain ⟨g, cap, w', hr, h2, h3, h4, h5⟩ := run_append_z (P := P) w t o.type base e i z size bytes ht hi hz hsize hby hzs hsz g0 cap0 n xs hown ad m c news hl hnews h1 h63 hbytes hbase
  unfold Oper.wp execOp
  simp only [ho, resolve, invoke, builtin, Sem.run_bind, Sem.run_pure, Result.andThen_ok, List.map_toArray, List.map_cons, List.map_nil, hs, hx, hr]
  exact hK _ _ (h g cap w' h2 h3 h4 h5)
/-- A row that lies at the head of block g. -/
def RowAt (w : World) (g : Nat) (cs : List Value) : Prop := g < w.heap.size ∧ ∀ j u, cs[j]? = some u → w.cell? ((⟨g, 0, none⟩ : Addr).add j) = some u
theorem addr0 (g j : Nat) : (⟨g, 0, none⟩ : Addr).add j = ⟨g, j, none⟩ := by unfold Addr.add; split <;> simp_all
theorem addr_add (b o j : Nat) : (⟨b, o, none⟩ : Addr).add j = ⟨b, o + j, none⟩ := by unfold Addr.add; split <;> simp_all
theorem RowAt.made (w : World) (cs : Array Value) (t : TypeId) : RowAt (w.alloc (.cells cs t)) w.heap.size cs.toList :=
  ⟨by simp, fun j u hj => by
    rw [addr0, World.cell?_alloc_at _ _ _ _ rfl]
    simpa using hj⟩
theorem RowAt.below {w w' : World} {g : Nat} {cs : List Value} (h : RowAt w g cs) (hb : Below w.heap.size w w') : RowAt w' g cs :=
  ⟨Nat.lt_of_lt_of_le h.1 hb.size, fun j u hj => by rw [addr0, hb.cell (p := ⟨g, j, none⟩) h.1, ← addr0]; exact h.2 j u hj⟩
theorem RowAt.alloc {w : World} {g : Nat} {cs : List Value} (h : RowAt w g cs) (o : Obj) : RowAt (w.alloc o) g cs := h.below ((Below.refl _ _).alloc (Nat.le_refl _) o)
theorem RowAt.grown {w w' : World} {g g0 : Nat} {cs : List Value} (h : RowAt w g cs) (hg : w.grownBy w' (some g0)) (hne : g ≠ g0) : RowAt w' g cs :=
  ⟨Nat.lt_of_lt_of_le h.1 hg.size, fun j u hj => by rw [addr0, hg.cell_far ⟨g, j, none⟩ h.1 (fun e => hne (Option.some.inj e)), ← addr0]; exact h.2 j u hj⟩
theorem ne_grown {w : World} {gx g g' : Nat} (hne : gx ≠ g) (hlt : gx < w.heap.size) (hat : g' = g ∨ g' = w.heap.size) : gx ≠ g' := by omega
theorem owns_lt {w : World} {base g n cap size : Nat} {e : TypeId} {xs : List Value} (h : w.ownsRow base e size (.slice (some ⟨g, 0, none⟩) n cap) n xs) : g < w.heap.size := (World.ownsRow.lt h g rfl).2
theorem owns_base {w : World} {base g n cap size : Nat} {e : TypeId} {xs : List Value} (h : w.ownsRow base e size (.slice (some ⟨g, 0, none⟩) n cap) n xs) : base ≤ g := (World.ownsRow.lt h g rfl).1
theorem owns_cap {w : World} {base g n cap size : Nat} {e : TypeId} {xs : List Value} (h : w.ownsRow base e size (.slice (some ⟨g, 0, none⟩) n cap) n xs) : n ≤ cap := by
  rcases h.2 with ⟨hv, _⟩ | ⟨g', cap', cur, hv, _, _, hnc, _⟩
  · cases hv
  · injection hv with _ _ h3
    omega
/-- What is not the row is as it was, below the base too. -/
theorem grownOwn {w a w' : World} {base g : Nat} (h : Below base w a) (hb : base ≤ a.heap.size) (hg : a.grownBy w' (some g)) (hbg : base ≤ g) : Below base w w' :=
  h.grown hg hb (fun k e => by cases e; exact hbg)
/-- One of the operations that only read, ahead of others. -/
theorem takeR {P : Program} {md : Region.Mode} {l : List Oper} {Q : Exit → Act → World → Prop} {S : World → Prop} {i : Nat} {oi : Oper} {v : Value} {fuel : Nat} {listed : Array Bool} {a : Act} {w : World} (hi : l[i]? = some oi)
    (hs : Region.noSelect l.toArray = true) (hf : Region.free md l.toArray listed i = true) (hr : (Region.ready md l.toArray listed).contains i = true)
    (hQ : ∀ c a w, Q (.panic c) (a.put oi.dst v) w → Q (.panic c) a w) (hw : Region.wanted oi (yielded l.toArray a.tmps) = true) (hy : ∀ w, S w → (execOp a.eval oi).run P w = .ok (.value v) w) (hS : S w)
    (h : wpAnyH P md l.toArray Q S fuel (listed.setIfInBounds i true) (a.put oi.dst v) w) : wpAnyH P md l.toArray Q S (fuel + 1) listed a w :=
  wpAnyH_take (oi := oi) (v := v) (by simpa using hi) hs hf hr hQ (Or.inl ⟨hw, hy⟩) hS h
end Go.Proofs.YtanbjifdcplmnaaGreatDoor
/- The plain functions of layer 7: words of 32 bits, a block's step, what stands behind a text, digests. No program's number stands here. -/
namespace Go.Proofs.YtanbjifdcplmnaaGreatDoor
open Go.RowKit

/-- Turned to the right. -/
def rr (x : BitVec 32) (n : Nat) : BitVec 32 := (x >>> n) ||| (x <<< (32 - n))
def tS (x : BitVec 32) (a b c : Nat) : BitVec 32 := rr x a ^^^ rr x b ^^^ rr x c
def tT (x : BitVec 32) (a b c : Nat) : BitVec 32 := rr x a ^^^ rr x b ^^^ (x >>> c)

/-- A state. -/
structure St where
  a : BitVec 32
  b : BitVec 32
  c : BitVec 32
  d : BitVec 32
  e : BitVec 32
  f : BitVec 32
  g : BitVec 32
  h : BitVec 32

def St.list (s : St) : List (BitVec 32) := [s.a, s.b, s.c, s.d, s.e, s.f, s.g, s.h]
def St.t1 (s : St) (k w : BitVec 32) : BitVec 32 := s.h + tS s.e 6 11 25 + ((s.e &&& s.f) ^^^ (~~~ s.e &&& s.g)) + k + w
def St.t2 (s : St) : BitVec 32 := tS s.a 2 13 22 + ((s.a &&& s.b) ^^^ (s.a &&& s.c) ^^^ (s.b &&& s.c))
def St.rnd (s : St) (k w : BitVec 32) : St := ⟨s.t1 k w + s.t2, s.a, s.b, s.c, s.d + s.t1 k w, s.e, s.f, s.g⟩
def St.add (s t : St) : St := ⟨s.a + t.a, s.b + t.b, s.c + t.c, s.d + t.d, s.e + t.e, s.f + t.f, s.g + t.g, s.h + t.h⟩

def kL : List (BitVec 32) := [0x428a2f98#32, 0x71374491#32, 0xb5c0fbcf#32, 0xe9b5dba5#32, 0x3956c25b#32, 0x59f111f1#32, 0x923f82a4#32, 0xab1c5ed5#32,
  0xd807aa98#32, 0x12835b01#32, 0x243185be#32, 0x550c7dc3#32, 0x72be5d74#32, 0x80deb1fe#32, 0x9bdc06a7#32, 0xc19bf174#32,
  0xe49b69c1#32, 0xefbe4786#32, 0x0fc19dc6#32, 0x240ca1cc#32, 0x2de92c6f#32, 0x4a7484aa#32, 0x5cb0a9dc#32, 0x76f988da#32,
  0x983e5152#32, 0xa831c66d#32, 0xb00327c8#32, 0xbf597fc7#32, 0xc6e00bf3#32, 0xd5a79147#32, 0x06ca6351#32, 0x14292967#32,
  0x27b70a85#32, 0x2e1b2138#32, 0x4d2c6dfc#32, 0x53380d13#32, 0x650a7354#32, 0x766a0abb#32, 0x81c2c92e#32, 0x92722c85#32,
  0xa2bfe8a1#32, 0xa81a664b#32, 0xc24b8b70#32, 0xc76c51a3#32, 0xd192e819#32, 0xd6990624#32, 0xf40e3585#32, 0x106aa070#32,
  0x19a4c116#32, 0x1e376c08#32, 0x2748774c#32, 0x34b0bcb5#32, 0x391c0cb3#32, 0x4ed8aa4a#32, 0x5b9cca4f#32, 0x682e6ff3#32,
  0x748f82ee#32, 0x78a5636f#32, 0x84c87814#32, 0x8cc70208#32, 0x90befffa#32, 0xa4506ceb#32, 0xbef9a3f7#32, 0xc67178f2#32]

def st0 : St := ⟨0x6a09e667#32, 0xbb67ae85#32, 0x3c6ef372#32, 0xa54ff53a#32, 0x510e527f#32, 0x9b05688c#32, 0x1f83d9ab#32, 0x5be0cd19#32⟩

/-- The next word, of those that there are. -/
def wnx (b : List UInt8) (l : List (BitVec 32)) (k : Nat) : BitVec 32 :=
  if k < 16 then BitVec.ofNat 32 (beNat ((b.drop (4 * k)).take 4))
  else l.getD (k - 16) 0 + tT (l.getD (k - 15) 0) 7 18 3 + l.getD (k - 7) 0 + tT (l.getD (k - 2) 0) 17 19 10
def wL (b : List UInt8) : Nat → List (BitVec 32)
  | 0 => []
  | k + 1 => wL b k ++ [wnx b (wL b k) k]
theorem wL_length (b : List UInt8) : ∀ k, (wL b k).length = k
  | 0 => rfl
  | k + 1 => by rw [wL, List.length_append, wL_length b k]; rfl

def rN (s : St) (ws : List (BitVec 32)) : Nat → St
  | 0 => s
  | k + 1 => (rN s ws k).rnd (kL.getD k 0) (ws.getD k 0)

def nxt (s : St) (b : List UInt8) : St := s.add (rN s (wL b 64) 64)

/-- What stands behind a text of n bytes. -/
def padL (n : Nat) : List UInt8 := 128 :: (List.replicate (63 - (n % 64 + 8) % 64) 0 ++ be (8 * n) 8)

/-- The state behind the first k blocks. -/
def blks (s : St) (l : List UInt8) : Nat → St
  | 0 => s
  | k + 1 => nxt (blks s l k) ((l.drop (64 * k)).take 64)
def outL (l : List (BitVec 32)) : List UInt8 := l.flatMap fun x => be x.toNat 4
def shaL (l : List UInt8) : List UInt8 := outL (blks st0 (l ++ padL l.length) ((l ++ padL l.length).length / 64)).list

theorem blks_app (s : St) (l x : List UInt8) : ∀ k, 64 * k ≤ l.length → blks s (l ++ x) k = blks s l k
  | 0, _ => rfl
  | k + 1, h => by
    rw [blks, blks, blks_app s l x k (by omega), List.drop_append_of_le_length (by omega), List.take_append_of_le_length (by simp; omega)]

theorem padL_length (n : Nat) : (padL n).length = 72 - (n % 64 + 8) % 64 := by
  simp [padL, be_length]; omega

set_option maxRecDepth 100000 in
theorem shaL_abc : shaL [97, 98, 99] = [0xba, 0x78, 0x16, 0xbf, 0x8f, 0x01, 0xcf, 0xea, 0x41, 0x41, 0x40, 0xde, 0x5d, 0xae, 0x22, 0x23, 0xb0, 0x03, 0x61, 0xa3, 0x96, 0x17, 0x7a, 0x9c, 0xb4, 0x10, 0xff, 0x61, 0xf2, 0x00, 0x15, 0xad] := by
  decide +kernel
end Go.Proofs.YtanbjifdcplmnaaGreatDoor
/- Words of 32 bits in memory: a slice that reads as a list of words ('Rw'), a slice of the call's own ('Ow'), the built-in append onto it. No program's number stands here. (The second part is layer 1's text on bytes, turned.) -/
namespace Go.Proofs.YtanbjifdcplmnaaGreatDoor
open Go.RowKit

/-- The value of a cell that holds a word. -/
def wv (x : BitVec 32) : Value := .int .u32 (x.toNat : Int)

/-- A slice with the address A and the length n reads as the words l; it lies below block B. -/
def Rw (w : World) (B : Nat) (A : Option Addr) (n : Nat) (l : List (BitVec 32)) : Prop :=
  l.length = n ∧ (0 < n → ∃ b o, A = some ⟨b, o, none⟩ ∧ b < B ∧ ∀ i, i < n → w.cell? ⟨b, o + i, none⟩ = some (.int .u32 ((l.getD i 0).toNat : Int)))

section
variable {w w' : World} {B B' n b : Nat} {A : Option Addr} {l : List (BitVec 32)} {t : TypeId}
theorem Rw.len (h : Rw w B A n l) : l.length = n := h.1
theorem Rw.keep (h : Rw w B A n l) (hk : ∀ p : Addr, p.block < B → w'.cell? p = w.cell? p) : Rw w' B A n l :=
  ⟨h.1, fun hn => by
    obtain ⟨b, o, e, hb, hc⟩ := h.2 hn
    exact ⟨b, o, e, hb, fun i hi => (hk ⟨b, o + i, none⟩ hb).trans (hc i hi)⟩⟩
theorem Rw.more (h : Rw w B A n l) (hB : B ≤ B') : Rw w B' A n l :=
  ⟨h.1, fun hn => by
    obtain ⟨b, o, e, hb, hc⟩ := h.2 hn
    exact ⟨b, o, e, by omega, hc⟩⟩
theorem Rw.below (h : Rw w B A n l) (hb : Below B w w') : Rw w' B A n l := h.keep fun _ hp => hb.cell hp
theorem Rw.drew (h : Rw w B A n l) : Rw w.drew B A n l := h
theorem Rw.alloc (h : Rw w B A n l) (hB : B ≤ w.heap.size) (o : Obj) : Rw (w.alloc o) B A n l := h.keep fun p hp => World.cell?_alloc_lt w o p (by omega)
theorem Rw.nil_ : Rw w B A 0 [] := ⟨rfl, fun h => absurd h (by omega)⟩
end

/-- A literal slice of words, new, in block g. -/
theorem Rw.litm (w : World) (g : Nat) (hg : w.heap.size = g) (l : List (BitVec 32)) (t : TypeId) (cs : Array Value) (fr : Nat × Nat) (hcs : cs = (l.map fun x => Value.int .u32 (x.toNat : Int)).toArray) (n : Nat) (hn : l.length = n) : Rw (w.alloc (.cells cs t fr)) (g + 1) (some ⟨g, 0, none⟩) n l := by
  subst hcs hg
  refine ⟨hn, fun _ => ⟨_, 0, rfl, by omega, fun i hi => ?_⟩⟩
  have hi' : i < l.length := by omega
  rw [Nat.zero_add, World.cell?_alloc_mark]
  simp [List.getD, hi']
theorem Rw.lit (w : World) (g : Nat) (hg : w.heap.size = g) (l : List (BitVec 32)) (t : TypeId) (cs : Array Value) (hcs : cs = (l.map fun x => Value.int .u32 (x.toNat : Int)).toArray) (n : Nat) (hn : l.length = n) : Rw (w.alloc (.cells cs t)) (g + 1) (some ⟨g, 0, none⟩) n l :=
  Rw.litm w g hg l t cs _ hcs n hn

theorem wf_u32 {n : Int} (h : (Lit.int .u32 n).wf = true) : 0 ≤ n ∧ n < 4294967296 := by
  simp [Lit.wf, IntKind.min, IntKind.max, IntKind.signed, IntKind.bits] at h
  omega

/-- A slice of words that came in. -/
theorem Rw.of_ints {w : World} {x : Addr} {n c : Nat} {zs : List Int} (hn : n ≤ c) (hz : zs.length = c) (hcell : ∀ i, i < zs.length → w.cell? (x.add i) = some (.int .u32 (zs.getD i 0))) (hw : ∀ z ∈ zs, (Lit.int .u32 z).wf = true) :
    Rw w w.heap.size (some x) n ((zs.take n).map fun z => BitVec.ofNat 32 z.toNat) := by
  refine ⟨by simp; omega, fun h0 => ?_⟩
  obtain ⟨b, off, spot⟩ := x
  have hc := hcell 0 (by omega)
  have hspot : spot = none := by simpa [Addr.add] using World.cell?_spot hc
  subst hspot
  refine ⟨b, off, rfl, ?_, fun i hi => ?_⟩
  · have h := World.block_lt_of_cell? w _ hc
    simpa [Addr.add] using h
  · have hi' : i < zs.length := by omega
    have h := hcell i hi'
    have e : (⟨b, off, none⟩ : Addr).add i = ⟨b, off + i, none⟩ := by unfold Addr.add; split <;> simp_all
    rw [e] at h
    rw [h]
    have hb := wf_u32 (hw _ (List.getElem_mem hi'))
    have e2 : ((BitVec.ofNat 32 (zs[i]).toNat).toNat : Int) = zs[i] := by
      rw [BitVec.toNat_ofNat]; omega
    simp [List.getD, hi, hi'] at e2 ⊢
    omega

/-- A call gives back a slice that reads as the words l, and leaves what was there. -/
def GivesWs (l : List (BitVec 32)) (w : World) (e : Ending) (w' : World) : Prop :=
  ∃ (A : Option Addr) (n c : Nat), e = .returned (.slice A n c) ∧ Rw w' w'.heap.size A n l ∧ n ≤ c ∧ Below w.heap.size w w'
theorem givesw_nil (w : World) : GivesWs [] w (.returned (.slice none 0 0)) w := ⟨none, 0, 0, rfl, Rw.nil_, Nat.le_refl _, Below.refl _ _⟩
theorem givesw_lit (w : World) (t : TypeId) (l : List (BitVec 32)) (cs : Array Value) (n : Nat) (hn : l.length = n) (hcs : cs = (l.map fun x => Value.int .u32 (x.toNat : Int)).toArray) :
    GivesWs l w (.returned (.slice (some ⟨w.heap.size, 0, none⟩) n n)) (w.alloc (.cells cs t)) :=
  ⟨_, n, n, rfl, (Rw.lit w _ rfl l t cs hcs n hn).more (by simp), Nat.le_refl _, (Below.refl _ _).alloc (Nat.le_refl _) _⟩

/-! ### Words of a call's own -/

theorem wv_one (l : List (BitVec 32)) : ∀ u ∈ l.map wv, u.oneCell' = true := by
  intro u hu
  obtain ⟨x, _, rfl⟩ := List.mem_map.1 hu
  rfl

/-- A slice value of the call's own that holds l: nil and l empty, or at the head of a row of its own in a block from base on. -/
def Ow (w : World) (base : Nat) (t : TypeId) (v : Value) (l : List (BitVec 32)) : Prop := w.ownsRow base t 1 v l.length (l.map wv)

section
variable {w w' : World} {base : Nat} {t : TypeId} {v : Value} {l : List (BitVec 32)}
theorem Ow.nil_ (w : World) (base : Nat) (t : TypeId) : Ow w base t (.slice none 0 0) [] := World.ownsRow_nil w base t 1
theorem Ow.lit (w : World) (l : List (BitVec 32)) (cs : Array Value) (hcs : cs = (l.map wv).toArray) (hb : base ≤ w.heap.size) (n : Nat) (hn : l.length = n) (hm : n ≤ maxLen) : Ow (w.alloc (.cells cs t)) base t (.slice (some ⟨w.heap.size, 0, none⟩) n n) l := by
  subst hcs hn
  have h := World.ownsRow_lit (e := t) (size := 1) w (l.map wv).toArray l.length hb hm (by simp)
  exact h
theorem Ow.alloc (h : Ow w base t v l) (o : Obj) : Ow (w.alloc o) base t v l := World.ownsRow.alloc h o
theorem Ow.drew (h : Ow w base t v l) : Ow w.drew base t v l := h
theorem Ow.kept {row : Option Nat} (h : Ow w base t v l) (hg : w.grownBy w' row) (hne : v.ownBlock = none ∨ v.ownBlock ≠ row) : Ow w' base t v l := World.ownsRow.kept h hg hne
theorem Ow.below (h : Ow w base t v l) (hb : Below w.heap.size w w') : Ow w' base t v l :=
  World.ownsRow.kept h (row := none) ⟨hb.os, hb.tape, hb.output, hb.size, fun k hk _ => hb.block k hk⟩ (by cases v.ownBlock <;> simp)
/-- What it reads as. -/
theorem Ow.rd (h : Ow w base t v l) : ∃ (A : Option Addr) (c : Nat), v = .slice A l.length c ∧ l.length ≤ c ∧ c ≤ maxLen ∧ Rw w w.heap.size A l.length l := by
  rcases h.2 with ⟨hv, h0⟩ | ⟨g, cap, cur, hv, _, hg, hn, hm, _⟩
  · have e : l = [] := List.eq_nil_of_length_eq_zero h0
    subst e
    exact ⟨none, 0, hv, Nat.le_refl _, by decide, Rw.nil_⟩
  · refine ⟨some ⟨g, 0, none⟩, cap, hv, hn, hm, rfl, fun h0 => ⟨g, 0, rfl, ?_, fun i hi => ?_⟩⟩
    · have hb : v.ownBlock = some g := by rw [hv]; rfl
      exact (World.ownsRow.lt h g hb).2
    · have hc := World.ownsRow.cells h (g := g) (by rw [hv]; rfl) i (wv l[i]) (by simp [hi])
      simp only [List.getD, List.getElem?_eq_getElem hi]
      unfold Addr.add at hc
      by_cases h0 : i = 0
      · subst h0; simpa [wv] using hc
      · rw [if_neg h0] at hc; simpa [wv] using hc
end

section
variable {w w' : World} {base : Nat} {t : TypeId} {v : Value} {l : List (BitVec 32)}
/-- Where it is not empty. -/
theorem Ow.form (h : Ow w base t v l) (h0 : 0 < l.length) : ∃ g cap, v = .slice (some ⟨g, 0, none⟩) l.length cap ∧ base ≤ g ∧ g < w.heap.size ∧ l.length ≤ cap := by
  rcases h.2 with ⟨_, hn⟩ | ⟨g, cap, cur, hv, hbg, _, hn, _⟩
  · omega
  · exact ⟨g, cap, hv, hbg, (World.ownsRow.lt h g (by rw [hv]; rfl)).2, hn⟩
theorem Ow.rd_ {A : Option Addr} {n cap : Nat} (h : Ow w base t (.slice A n cap) l) : l.length = n ∧ Rw w w.heap.size A n l ∧ n ≤ cap ∧ cap ≤ maxLen := by
  obtain ⟨A2, c2, hv, hc, hm, hr⟩ := h.rd
  injection hv with h1 h2 h3
  subst h1 h2 h3
  exact ⟨rfl, hr, hc, hm⟩
variable {g cap n : Nat}
theorem Ow.cell (h : Ow w base t (.slice (some ⟨g, 0, none⟩) n cap) l) (hn : l.length = n) {j : Nat} (hj : j < n) : w.cell? ⟨g, j, none⟩ = some (.int .u32 ((l.getD j 0).toNat : Int)) := by
  subst hn
  have := World.ownsRow.cellAt h j (by omega)
  rw [this]
  simp [List.getD, hj, wv]
theorem Ow.frozen (h : Ow w base t (.slice (some ⟨g, 0, none⟩) n cap) l) (hn : l.length = n) (j : Nat) : w.frozen? ⟨g, j, none⟩ = false := by
  subst hn
  exact World.ownsRow.frozenAt h j
theorem Ow.stored (h : Ow w base t (.slice (some ⟨g, 0, none⟩) n cap) l) (hn : l.length = n) (j : Nat) (x : BitVec 32) {u : Value} (hu : u = .int .u32 (x.toNat : Int)) : Ow (w.setCell ⟨g, j, none⟩ u) base t (.slice (some ⟨g, 0, none⟩) n cap) (l.set j x) := by
  subst hn hu
  have := World.ownsRow.stored h j (wv x)
  unfold Ow
  rw [List.length_set, List.map_set]
  exact this.1
end

section
variable {P : Program} (w : World)

theorem run_appw_none (base : Nat) (t ty e : TypeId) (i : TypeInfo) (ht : P.underlying t = some (.slice e)) (hi : P.info? e = some i) (v : Value) (l : List (BitVec 32)) (hown : Ow w base e v l) (c : Nat) :
    (Builtin.append_ #[t, t] ty #[v, .slice none 0 c]).run P w = .ok v w := by
  rcases hown.2 with ⟨rfl, hn⟩ | ⟨g, cap, cur, rfl, _, _, hnc, _⟩
  · simp [Builtin.append_, run_underlying ht, sizeOf, typeInfo, hi, Builtin.lenOf, Builtin.firstCells]
  · simp [Builtin.append_, run_underlying ht, sizeOf, typeInfo, hi, Builtin.lenOf, Builtin.firstCells, hnc, storeCells]

/-- append onto an own slice: some value, some world, in which it holds both. -/
theorem run_appw (base : Nat) (t ty e : TypeId) (ht : P.underlying t = some (.slice e)) (hinfo : (P.info? e).map (fun i => (i.zero, i.size, i.bytes)) = some (some (.int .u32 0), 1, 4))
    (v : Value) (l : List (BitVec 32)) (hown : Ow w base e v l) (B : Nat) (A : Option Addr) (m c : Nat) (news : List (BitVec 32)) (hr : Rw w B A m news) (hbound : l.length + m ≤ 35184372088832) (hbase : base ≤ w.heap.size) :
    ∃ v' w', (Builtin.append_ #[t, t] ty #[v, .slice A m c]).run P w = .ok v' w' ∧ Ow w' base e v' (l ++ news) ∧ w.grownBy w' v.ownBlock ∧ (v'.ownBlock = v.ownBlock ∨ v'.ownBlock = some w.heap.size) := by
  obtain ⟨i, hi, hzz⟩ := Option.map_eq_some_iff.1 hinfo
  simp only [Prod.mk.injEq] at hzz
  obtain ⟨hz, hs, hb⟩ := hzz
  have hlen := hr.1
  rcases A with _ | ad
  · have h0 : m = 0 := by
      rcases Nat.eq_zero_or_pos m with h | h
      · exact h
      · obtain ⟨_, _, h', _⟩ := hr.2 h
        cases h'
    subst h0
    have hn : news = [] := List.eq_nil_of_length_eq_zero hlen
    subst hn
    exact ⟨v, w, run_appw_none w base t ty e i ht hi v l hown c, by simpa using hown, World.grownBy.refl w _, .inl rfl⟩
  · have hcells : ∀ j u, (news.map wv)[j]? = some u → w.cell? (ad.add j) = some u := by
      intro j u hu
      rcases Nat.eq_zero_or_pos m with h0 | h0
      · have hn : news = [] := List.eq_nil_of_length_eq_zero (by omega)
        subst hn
        simp at hu
      · obtain ⟨b, o, e1, _, hc⟩ := hr.2 h0
        injection e1 with e1
        subst e1
        have hj : j < news.length := by
          rcases Nat.lt_or_ge j news.length with h | h
          · exact h
          · rw [List.getElem?_eq_none (by simpa using h)] at hu; cases hu
        have h := hc j (by omega)
        have ea : (⟨b, o, none⟩ : Addr).add j = ⟨b, o + j, none⟩ := by unfold Addr.add; split <;> simp_all
        rw [ea, h, ← hu]
        simp [List.getD, hj, wv]
    obtain ⟨v', w', hrun, h2, h3, _, h5⟩ := run_append_own_at (P := P) w base t ty e i (.int .u32 0) 1 4 ht hi hz hs hb rfl (by decide) v l.length (l.map wv) hown ad m c (news.map wv) (by simp [hlen]) hcells (wv_one news)
      (by unfold maxLen; omega) (by omega) hbase
    refine ⟨v', w', hrun, ?_, h3, h5⟩
    unfold Ow
    rw [List.length_append, hlen, List.map_append]
    exact h2

/-- As a law for 'go_wp2_with (at_builtin; refine wpList_appw ..)'. -/
theorem wpList_appw {w : World} {ops : Array Oper} {rest : List Oper} {o : Oper} {a : Act} {Q : Exit → Act → World → Prop} (hgd : o.guard = none) (s x : Operand) (t : TypeId)
    (ho : o.op = .call { callee := .builtin .append, args := #[s, x], argTypes := #[t, t] })
    (base : Nat) (e : TypeId) (ht : P.underlying t = some (.slice e)) (hinfo : (P.info? e).map (fun i => (i.zero, i.size, i.bytes)) = some (some (.int .u32 0), 1, 4))
    (v : Value) (l : List (BitVec 32)) (hs : a.eval s = v) (hown : Ow w base e v l) (B : Nat) (A : Option Addr) (m c : Nat) (news : List (BitVec 32)) (hx : a.eval x = .slice A m c) (hr : Rw w B A m news)
    (hbound : l.length + m ≤ 35184372088832) (hbase : base ≤ w.heap.size)
    (h : ∀ v' w', Ow w' base e v' (l ++ news) → w.grownBy w' v.ownBlock → (v'.ownBlock = v.ownBlock ∨ v'.ownBlock = some w.heap.size) → wpList P ops Q rest (a.put o.dst v') w') : wpList P ops Q (o :: rest) a w := by
  refine wpList_plain hgd fun K hK => ?_
  obtain ⟨v', w', hrun, h2, h3, h4⟩ := run_appw (P := P) w base t o.type e ht hinfo v l hown B A m c news hr hbound hbase
  unfold Oper.wp execOp
  simp only [ho, resolve, invoke, builtin, Sem.run_bind, Sem.run_pure, Result.andThen_ok, List.map_toArray, List.map_cons, List.map_nil, hs, hx, hrun]
  exact hK _ _ (h v' w' h2 h3 h4)


/-- The same, with what is left as it was told by 'Below': nothing ahead of block base has changed. -/
theorem wpList_appwB {w : World} {ops : Array Oper} {rest : List Oper} {o : Oper} {a : Act} {Q : Exit → Act → World → Prop} (hgd : o.guard = none) (s x : Operand) (t : TypeId)
    (ho : o.op = .call { callee := .builtin .append, args := #[s, x], argTypes := #[t, t] })
    (base : Nat) (e : TypeId) (ht : P.underlying t = some (.slice e)) (hinfo : (P.info? e).map (fun i => (i.zero, i.size, i.bytes)) = some (some (.int .u32 0), 1, 4))
    (v : Value) (l : List (BitVec 32)) (hs : a.eval s = v) (hown : Ow w base e v l) (B : Nat) (A : Option Addr) (m c : Nat) (news : List (BitVec 32)) (hx : a.eval x = .slice A m c) (hr : Rw w B A m news)
    (hbound : l.length + m ≤ 35184372088832) (hbase : base ≤ w.heap.size)
    (h : ∀ v' w', Ow w' base e v' (l ++ news) → Below base w w' → wpList P ops Q rest (a.put o.dst v') w') : wpList P ops Q (o :: rest) a w :=
  wpList_appw hgd s x t ho base e ht hinfo v l hs hown B A m c news hx hr hbound hbase fun v' w' h1 h2 _ =>
    h v' w' h1 ⟨h2.os, h2.tape, h2.output, h2.size, fun k hk => h2.block k (by omega) (fun e => by have := (World.ownsRow.lt hown k e.symm).1; omega)⟩
end

/-! ### The operations on words, as numbers -/
theorem xor32 (a b : BitVec 32) : bits BinOp.xor .u32 (a.toNat : Int) (b.toNat : Int) = ((a ^^^ b).toNat : Int) := by
  rw [u32_xor_nat _ _ a.isLt b.isLt, BitVec.toNat_xor]
theorem andw (a b : BitVec 32) : bits BinOp.and .u32 (a.toNat : Int) (b.toNat : Int) = ((a &&& b).toNat : Int) := by
  rw [u32_and_nat _ _ a.isLt b.isLt, BitVec.toNat_and]
theorem orw (a b : BitVec 32) : bits BinOp.or .u32 (a.toNat : Int) (b.toNat : Int) = ((a ||| b).toNat : Int) := by
  rw [u32_or_nat _ _ a.isLt b.isLt, BitVec.toNat_or]
theorem addw (a b : BitVec 32) : ((a.toNat : Int) + (b.toNat : Int)) % 4294967296 = ((a + b).toNat : Int) := by
  rw [BitVec.toNat_add]; omega
theorem notw (a : BitVec 32) : 4294967295 - (a.toNat : Int) = ((~~~ a).toNat : Int) := by
  have h := a.isLt
  rw [BitVec.toNat_not]; omega
end Go.Proofs.YtanbjifdcplmnaaGreatDoor
/- What the small functions of layer 7 and of its reference return: turning, shifting, constants. -/
namespace Go.Proofs.YtanbjifdcplmnaaGreatDoor
open Go.RowKit

theorem rr_l (x : BitVec 32) (n : Nat) : (x <<< (32 - n)).toNat = x.toNat * 2 ^ (32 - n) % 4294967296 := by
  rw [BitVec.toNat_shiftLeft, Nat.shiftLeft_eq]
theorem rr_r (x : BitVec 32) (n : Nat) : (x >>> n).toNat = x.toNat / 2 ^ n := by
  rw [BitVec.toNat_ushiftRight, Nat.shiftRight_eq_div_pow]
/-- As the walk has it. -/
theorem rr_walk (x : BitVec 32) (n : Nat) :
    bits BinOp.or .u32 ((x.toNat : Int) / 2 ^ n) ((x.toNat : Int) * 2 ^ (32 - n) % 4294967296) = ((rr x n).toNat : Int) := by
  have e1 : (x.toNat : Int) / 2 ^ n = ((x >>> n).toNat : Int) := by rw [rr_r]; simp
  have e2 : (x.toNat : Int) * 2 ^ (32 - n) % 4294967296 = ((x <<< (32 - n)).toNat : Int) := by rw [rr_l x n]; simp
  rw [e1, e2, orw]; rfl
theorem rr_walk' (x : BitVec 32) (m : Nat) (h : m ≤ 32) :
    bits BinOp.or .u32 ((x.toNat : Int) * 2 ^ m % 4294967296) ((x.toNat : Int) / 2 ^ (32 - m)) = ((rr x (32 - m)).toNat : Int) := by
  have e1 : (x.toNat : Int) / 2 ^ (32 - m) = ((x >>> (32 - m)).toNat : Int) := by rw [rr_r]; simp
  have e2 : (x.toNat : Int) * 2 ^ m % 4294967296 = ((x <<< (32 - (32 - m))).toNat : Int) := by rw [rr_l x (32 - m), show 32 - (32 - m) = m by omega]; simp
  rw [e1, e2, orw, BitVec.or_comm]; rfl
theorem sand31 (n m : Nat) (h0 : 0 < n) (h : n < 32) (hm : m = 32 - n) : bits BinOp.and .u64 (IntKind.u64.wrap (-(n : Int))) 31 = (m : Int) := by
  have e : IntKind.u64.wrap (-(n : Int)) = ((18446744073709551616 - n : Nat) : Int) := by rw [IntKind.wrap_u64]; omega
  have e2 := u64_and_nat (18446744073709551616 - n) 31 (by omega) (by decide)
  rw [e]
  refine Eq.trans e2 ?_
  have e3 : (18446744073709551616 - n) &&& 31 = (18446744073709551616 - n) % 2 ^ 5 := Nat.and_two_pow_sub_one_eq_mod _ 5
  rw [e3]
  omega

end Go.Proofs.YtanbjifdcplmnaaGreatDoor
/- What the constants' functions of layer 7 and of its reference return. -/
namespace Go.Proofs.YtanbjifdcplmnaaGreatDoor
open Go.RowKit

/-- Words as cells. -/
def wc (l : List (BitVec 32)) : List Value := l.map fun x => Value.int .u32 (x.toNat : Int)
theorem wc_length (l : List (BitVec 32)) : (wc l).length = l.length := by simp [wc]
theorem wc_one (l : List (BitVec 32)) : (wc l).toArray.all (·.oneCell') = true := by
  rw [Array.all_eq_true_iff_forall_mem]
  intro v hv
  obtain ⟨x, _, rfl⟩ := List.mem_map.1 (by simpa [wc] using hv)
  rfl
theorem wc_get (l : List (BitVec 32)) (i : Nat) (h : i < l.length) : (wc l).toArray[i]? = some (.int .u32 ((l.getD i 0).toNat : Int)) := by
  simp [wc, List.getD, h]

theorem kL_length : kL.length = 64 := rfl
theorem info_u32 : (Tryz.prog.info? 152).map (·.size) = some 1 := by kernel_rfl
theorem wc_ints (l : List (BitVec 32)) : ((l.map fun x => (x.toNat : Int)).map (Value.int .u32)).toArray = (wc l).toArray := by simp [wc]

/-- A new variable of many cells, as an operation: its cells are what they are called. -/
theorem wpList_allocZ {P : Program} {ops : Array Oper} {rest : List Oper} {o : Oper} {a : Act} {w : World} {Q : Exit → Act → World → Prop} (hg : o.guard = none) (t : TypeId) (ho : o.op = .alloc t) (C : Array Value) (hz : ∀ w : World, (zeroValue t).run P w = .ok (.agg C) w)
    (h : wpList P ops Q rest (a.put o.dst (.pointer (some ⟨w.heap.size, 0, none⟩))) (w.alloc (.cells C t))) : wpList P ops Q (o :: rest) a w := by
  refine wpList_plain hg fun K hK => ?_
  unfold Oper.wp execOp
  simp only [ho, Instr.alloc, Sem.run_bind, hz, Result.andThen_ok, newVar, Sem.run_pure]
  exact hK _ _ h

def kZ : List Int := [1116352408, 1899447441, 3049323471, 3921009573, 961987163, 1508970993, 2453635748, 2870763221, 3624381080, 310598401, 607225278, 1426881987, 1925078388, 2162078206, 2614888103, 3248222580, 3835390401, 4022224774, 264347078, 604807628, 770255983, 1249150122, 1555081692, 1996064986, 2554220882, 2821834349, 2952996808, 3210313671, 3336571891, 3584528711, 113926993, 338241895, 666307205, 773529912, 1294757372, 1396182291, 1695183700, 1986661051, 2177026350, 2456956037, 2730485921, 2820302411, 3259730800, 3345764771, 3516065817, 3600352804, 4094571909, 275423344, 430227734, 506948616, 659060556, 883997877, 958139571, 1322822218, 1537002063, 1747873779, 1955562222, 2024104815, 2227730452, 2361852424, 2428436474, 2756734187, 3204031479, 3329325298]
theorem kZ_eq : (kL.map fun x => (x.toNat : Int)) = kZ := rfl
end Go.Proofs.YtanbjifdcplmnaaGreatDoor
/- What words of layer 7 returns: the 64 words of a block. -/
namespace Go.Proofs.YtanbjifdcplmnaaGreatDoor
open Go.RowKit

/-- A cut 'b[i:j]'. -/
theorem Rd.mid {w : World} {B n i j : Nat} {A : Option Addr} {l : List UInt8} (h : Rd w B A n l) (hij : i ≤ j) (hj : j ≤ n) : Rd w B (A.map (·.add i)) (j - i) ((l.drop i).take (j - i)) :=
  (h.cut (k := i)).take (by omega)
theorem cut_lh {P : Program} {w : World} {B n : Nat} {A : Option Addr} {l : List UInt8} (t e : TypeId) (ht : P.underlying t = some (.slice e)) (hz : ∀ W : World, (sizeOf e).run P W = .ok 1 W) (c : Nat) (h : Rd w B A n l) (x y : Int) (i j : Nat) (hx : x = (i : Int)) (hy : y = (j : Int)) (hij : i < j) (hj : j ≤ n) (hc : n ≤ c) :
    ∃ A' c', (∀ W : World, (Instr.slice t (.slice A n c) (some (.int .i64 x)) (some (.int .i64 y)) none).run P W = .ok (.slice A' (j - i) c') W) ∧ j - i ≤ c' ∧ c' ≤ c ∧ Rd w B A' (j - i) ((l.drop i).take (j - i)) := by
  subst hx hy
  refine ⟨A.map (·.add i), c - i, fun W => ?_, by omega, by omega, h.mid (by omega) hj⟩
  have h1 : ¬ c = i := by omega
  have h2 : j ≤ c := by omega
  have h3 : i ≤ j := by omega
  go_simp

theorem wL_getD (b : List UInt8) (k j : Nat) : (wL b (k + 1)).getD j 0 = if j = k then wnx b (wL b k) k else (wL b k).getD j 0 := by
  have hl := wL_length b k
  by_cases h : j = k
  · subst h
    rw [if_pos rfl, wL]
    simp [List.getD, hl]
  · rw [if_neg h, wL]
    rcases Nat.lt_or_ge j k with h1 | h1
    · simp [List.getD, List.getElem?_append_left (show j < (wL b k).length by omega)]
    · simp [List.getD, List.getElem?_eq_none (l := wL b k) (i := j) (by omega), List.getElem?_eq_none (l := wL b k ++ [wnx b (wL b k) k]) (i := j) (by simp [hl]; omega)]

/-- The row of words behind k rounds. -/
def WRow (w : World) (g : Nat) (t : TypeId) (b : List UInt8) (k : Nat) : Prop := w.rowIs g t 64 (fun j => .int .u32 (((wL b k).getD j 0).toNat : Int))
theorem WRow.push {w : World} {g : Nat} {t : TypeId} {b : List UInt8} {k : Nat} (h : WRow w g t b k) {v : Value} (hv : v = .int .u32 ((wnx b (wL b k) k).toNat : Int)) : WRow (w.setCell ⟨g, k, none⟩ v) g t b (k + 1) := by
  subst hv
  refine (World.rowIs.set h k _).congr fun j _ => ?_
  rw [wL_getD]
  split <;> rfl
theorem rowIs_zero (w : World) (t : TypeId) (n : Nat) (z : Value) : (w.alloc (.cells (Array.replicate n z) t)).rowIs w.heap.size t n (fun _ => z) := by
  have h := World.rowIs_alloc w (Array.replicate n z) t (fun _ => z) (fun i hi => by
    have hi' : i < n := by simpa using hi
    simp [hi'])
  rwa [Array.size_replicate] at h
/-- The row as an array of cells. -/
theorem rowIs_cells {w : World} {g n : Nat} {t : TypeId} {l : List (BitVec 32)} (hl : l.length = n) (h : w.rowIs g t n (fun j => .int .u32 ((l.getD j 0).toNat : Int))) : w.heap[g]? = some (.cells (wc l).toArray t (0, 0)) := by
  obtain ⟨c, hb, hs, hc⟩ := h
  have e : c = (wc l).toArray := by
    apply Array.ext_getElem?
    intro i
    rcases Nat.lt_or_ge i n with hi | hi
    · rw [hc i hi, wc_get l i (by omega)]
    · rw [Array.getElem?_eq_none (by omega), Array.getElem?_eq_none (by rw [List.size_toArray, wc_length]; omega)]
  rw [hb, e]

theorem low32 (N : Nat) : Value.int .u32 ((N : Int) % 4294967296) = .int .u32 ((BitVec.ofNat 32 N).toNat : Int) := by
  rw [BitVec.toNat_ofNat]; rfl
theorem wnx_lo (b : List UInt8) (l : List (BitVec 32)) (k : Nat) (h : k < 16) : wnx b l k = BitVec.ofNat 32 (beNat ((b.drop (4 * k)).take 4)) := by unfold wnx; rw [if_pos h]
theorem wnx_hi (b : List UInt8) (l : List (BitVec 32)) (k : Nat) (h : ¬ k < 16) : wnx b l k = l.getD (k - 16) 0 + tT (l.getD (k - 15) 0) 7 18 3 + l.getD (k - 7) 0 + tT (l.getD (k - 2) 0) 17 19 10 := by unfold wnx; rw [if_neg h]

theorem below_dN (B : Nat) (w : World) (k : Nat) : Below B w (w.drewN k) := ⟨rfl, rfl, rfl, Nat.le_refl _, fun _ _ => rfl⟩

end Go.Proofs.YtanbjifdcplmnaaGreatDoor
/- What Put, Get and Hex of layer 1's reference return. -/
namespace Go.Proofs.YtanbjifdcplmnaaGreatDoor
open Go.RowKit

set_option maxRecDepth 100000 in
set_option maxHeartbeats 1000000 in
theorem rget_any (A : Option Addr) (n c : Nat) (l : List UInt8) (w : World) (B : Nat) (h : Rd w B A n l) (hn : n ≤ 140737488355328) :
    Calls Tryz.prog 97 #[.slice A n c] w fun e w' => e = .returned (.int .u64 (beNat l : Int)) ∧ w = w' := by
  have HR := Lib.hid h
  clear h
  go_enter Tryz.func97, Tryz.ntmps97
  go_wp2
  go_loop [3, 4] (fun v i => ∃ (k d : Nat), k ≤ n ∧ i = .int .i64 k ∧ v = .int .u64 (d : Int) ∧ Hid (d = beNat (l.take k)) ∧ d < 18446744073709551616) (fun _ i => n - (intOf i).toNat)
  case atStart => exact ⟨0, 0, Nat.zero_le _, rfl, rfl, rfl, by decide⟩
  case round =>
    obtain ⟨k, d, hk, rfl, rfl, hd, hdl⟩ := hrel
    by_cases hlt : k < n
    · obtain ⟨b, o, rfl, hb, hcell⟩ := HR.out.2 (by omega)
      obtain ⟨x, hx⟩ : ∃ x, x = l.getD k 0 := ⟨_, rfl⟩
      have hcx : w.cell? ⟨b, o + k, none⟩ = some (.int .u8 (x.toNat : Int)) := by rw [hx]; exact hcell k hlt
      have Hx := Lib.hid hx
      clear hx hcell
      have hx1 : (x.toNat : Int) < 256 := by have := x.toNat_lt; omega
      have hx0 : (0 : Int) ≤ (x.toNat : Int) := by omega
      go_wp2_with fail
      go_round
      case rel =>
        have hl := HR.out.1
        refine ⟨k + 1, (d * 256 + x.toNat) % 18446744073709551616, by omega, by go_num, ?_, ?_, Nat.mod_lt _ (by decide)⟩
        · rw [IntKind.wrap_u64, IntKind.wrap_u64]; congr 1; omega
        · show _ = _
          rw [take_more l k (by omega), ← Hx.out, beNat_snoc, ← hd.out]
      case measure => simp [intOf]; omega
    · obtain rfl : k = n := by omega
      have hl := HR.out.1
      have e : l.take k = l := List.take_of_length_le (by omega)
      have HE := Lib.hid e
      clear e hl
      go_wp2
      go_ret
      exact ⟨by rw [hd.out, HE.out]; rfl, rfl⟩

/-- append at a step of a region that draws its order, and what else it leaves. -/
theorem step_appG {P : Program} {w : World} {ops : Array Oper} {o : Oper} {a : Act} {K : Act → World → Prop} {Q : Exit → Act → World → Prop} {E : Prop} (hgd : o.guard = none) (s x : Operand) (t : TypeId)
    (ho : o.op = .call { callee := .builtin .append, args := #[s, x], argTypes := #[t, t] })
    (base : Nat) (e : TypeId) (ht : P.underlying t = some (.slice e)) (hinfo : (P.info? e).map (fun i => (i.zero, i.size, i.bytes)) = some (some (.int .u8 0), 1, 1))
    (v : Value) (l : List UInt8) (hs : a.eval s = v) (hown : Ob w base e v l) (B : Nat) (A : Option Addr) (m c : Nat) (news : List UInt8) (hx : a.eval x = .slice A m c) (hr : Rd w B A m news)
    (hbound : l.length + m ≤ 140737488355328) (hbase : base ≤ w.heap.size)
    (h : ∀ v' w', Ob w' base e v' (l ++ news) → w.grownBy w' v.ownBlock → K (a.put o.dst v') w') : if Region.wanted o (yielded ops a.tmps) = true then Oper.wp P o a w K Q else E := by
  have hw : Region.wanted o (yielded ops a.tmps) = true := by simp [Region.wanted, hgd]
  rw [if_pos hw]
  obtain ⟨v', w', hrun, h2, h3, h4⟩ := run_app (P := P) w base t o.type e ht hinfo v l hown B A m c news hr hbound hbase
  unfold Oper.wp execOp
  simp only [ho, resolve, invoke, builtin, Sem.run_bind, Sem.run_pure, Result.andThen_ok, List.map_toArray, List.map_cons, List.map_nil, hs, hx, hrun]
  exact h v' w' h2 h3
theorem Rd.grown {w w' : World} {B n : Nat} {A : Option Addr} {l : List UInt8} {row : Option Nat} (h : Rd w B A n l) (hg : w.grownBy w' row) (hB : B ≤ w.heap.size) (hne : ∀ b o, A = some ⟨b, o, none⟩ → row ≠ some b) : Rd w' B A n l :=
  ⟨h.1, fun hn => by
    obtain ⟨b, o, e, hb, hc⟩ := h.2 hn
    refine ⟨b, o, e, hb, fun i hi => ?_⟩
    rw [← hc i hi]
    simp only [World.cell?]
    rw [hg.block b (by omega) (fun h => hne b o e h.symm)]⟩

theorem grown_trans {w0 W w' : World} {t : TypeId} {v : Value} {l : List UInt8} (hg : W.grownBy w' v.ownBlock) (hown : Ob W w0.heap.size t v l) (hb : Below w0.heap.size w0 W) : Below w0.heap.size w0 w' :=
  hb.trans ⟨hg.os, hg.tape, hg.output, hg.size, fun k hk => hg.block k (Nat.lt_of_lt_of_le hk hb.size) (fun e => by have := (World.ownsRow.lt hown k e.symm).1; omega)⟩

/-- The digits of bytes. -/
def dgt (x : Nat) : UInt8 := if x < 10 then UInt8.ofNat (48 + x) else UInt8.ofNat (87 + x)
def hexL (l : List UInt8) : List UInt8 := l.flatMap fun x => [dgt (x.toNat / 16), dgt (x.toNat % 16)]
theorem hexL_snoc (l : List UInt8) (x : UInt8) : hexL (l ++ [x]) = hexL l ++ [dgt (x.toNat / 16)] ++ [dgt (x.toNat % 16)] := by
  simp [hexL]
def digs : ByteArray := ⟨#[48, 49, 50, 51, 52, 53, 54, 55, 56, 57, 97, 98, 99, 100, 101, 102]⟩


end Go.Proofs.YtanbjifdcplmnaaGreatDoor
