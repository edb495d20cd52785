/- What Uint and Text of layer 3 return, with nothing in it that is read below a block lo; an item stored into cells of one's own. -/
import Derived.Test.YtanbjifdcplmnaaGreatDoorRBlkC
import Derived.Test.YtanbjifdcplmnaaGreatDoorRCborD
import Derived.Test.YtanbjifdcplmnaaGreatDoorRNumG
import Derived.Test.YtanbjifdcplmnaaGreatDoorRRfA
import Derived.Shelf.RegionOpenPlain
import Derived.Deep.DeepFit
import Derived.LaidEql
import Derived.Stop.Asserts
import Derived.Stop.IfaceNil
import Derived.RowKitTokens
import Derived.Deep.RegionHeld3
import Derived.Lib.SmallJoins
import Derived.ChangeArms
import Derived.ChangeSlices
import Derived.OpenShut
import Derived.Lib.IfaceEq
namespace Go.Proofs.YtanbjifdcplmnaaGreatDoor
open Go.RowKit

/-- An item, read in no block below lo. -/
def GivesL (lo : Nat) (x : Itm) (w : World) (e : Ending) (w' : World) : Prop := ∃ v, e = .returned v ∧ RdI (mask (lows lo) w') w'.heap.size v x ∧ Below w.heap.size w w'

theorem Rd.mask_one {w : World} {lo B n b o : Nat} {l : List UInt8} (h : Rd w B (some ⟨b, o, none⟩) n l) (hb : lo ≤ b) : Rd (mask (lows lo) w) B (some ⟨b, o, none⟩) n l :=
  ⟨h.1, fun hn => by
    obtain ⟨b', o', e, hB, hc⟩ := h.2 hn
    injection e with e
    injection e with e1 e2
    subst e1 e2
    exact ⟨b, o, rfl, hB, fun i hi => (mask_cell (lows_f.2 hb)).trans (hc i hi)⟩⟩

/-- Four stores into block g, which the item is not read in. -/
theorem RdI.put4 {W : World} {B B' g lo lo' : Nat} {v : Value} {x : Itm} {u0 u1 u2 u3 : Value} (h : RdI (mask (lows lo) W) B v x) (hl : lo' ≤ lo) (hg : g < lo) (hB : B ≤ B') :
    RdI (mask (lows lo') ((((W.setCell ⟨g, 0, none⟩ u0).setCell ⟨g, 1, none⟩ u1).setCell ⟨g, 2, none⟩ u2).setCell ⟨g, 3, none⟩ u3)) B' v x :=
  h.sub hB fun q u _ hc => by
    have h1 := lows_f.1 (mask_out hc)
    have hq : ¬ g = q.block := by omega
    rw [mask_cell (lows_f.2 (by omega)), World.cell?_setCell_far _ _ _ _ hq, World.cell?_setCell_far _ _ _ _ hq, World.cell?_setCell_far _ _ _ _ hq, World.cell?_setCell_far _ _ _ _ hq]
    exact mask_sub hc
/-- The same item in a world that grew. -/
theorem RdI.grow {W W' : World} {lo lo' : Nat} {v : Value} {x : Itm} (h : RdI (mask (lows lo) W) W.heap.size v x) (hb : Below W.heap.size W W') (hl : lo' ≤ lo) : RdI (mask (lows lo') W') W'.heap.size v x :=
  h.sub hb.size fun q u hp hc => by
    have h1 := lows_f.1 (mask_out hc)
    rw [mask_cell (lows_f.2 (by omega)), hb.cell hp]
    exact mask_sub hc
theorem size_put4 {W : World} {g : Nat} {u0 u1 u2 u3 : Value} : ((((W.setCell ⟨g, 0, none⟩ u0).setCell ⟨g, 1, none⟩ u1).setCell ⟨g, 2, none⟩ u2).setCell ⟨g, 3, none⟩ u3).heap.size = W.heap.size := by simp [World.setCell]

/-- Zeros of an item's cells, in a block of one's own. -/
theorem zero4 {w W' : World} {g : Nat} (hg : g = w.heap.size) (h : Below (g + 1) (w.alloc (.cells #[.int .i64 0, .int .u64 0, .slice none 0 0, .slice none 0 0] 37)) W') :
    (W'.cell? ⟨g, 0, none⟩ = some (.int .i64 0) ∧ W'.cell? ⟨g, 1, none⟩ = some (.int .u64 0) ∧ W'.cell? ⟨g, 2, none⟩ = some (.slice none 0 0) ∧ W'.cell? ⟨g, 3, none⟩ = some (.slice none 0 0)) ∧
    (W'.frozen? ⟨g, 0, none⟩ = false ∧ W'.frozen? ⟨g, 1, none⟩ = false ∧ W'.frozen? ⟨g, 2, none⟩ = false ∧ W'.frozen? ⟨g, 3, none⟩ = false) := by
  subst hg
  exact zero_cells h

set_option maxRecDepth 100000 in
set_option maxHeartbeats 1000000 in
theorem cuintL_any (lo n : Nat) (w : World) (h : n < 18446744073709551616) :
    Calls Tryz.prog 89 #[.int .u64 (n : Int)] w (GivesL lo (.mk 0 n [] []) w) := by
  go_enter Tryz.func89, Tryz.ntmps89
  go_wp2_with fail
  have hr := fun W B => RdI.mk_uint (w := W) (B := B) (n := n) h
  exact bodyPost_ret (v := .agg #[.int .i64 0, .int .u64 (n : Int), .slice none 0 0, .slice none 0 0]) (by simp [results, Tryz.results89, go_sem]) rfl ⟨_, rfl, hr _ _, (Below.refl _ _).alloc (Nat.le_refl _) _⟩

set_option maxRecDepth 100000 in
set_option maxHeartbeats 1000000 in
theorem ctextL_any (lo : Nat) (s : ByteArray) (w : World) (hlo : lo ≤ w.heap.size) (hs : s.size ≤ 140737488355328) :
    Calls Tryz.prog 121 #[.string s] w (GivesL lo (.mk 3 0 s.data.toList []) w) := by
  obtain ⟨c, W', hrun, hrd, hc, hb, hz⟩ := conv_bytes (w.alloc (.cells #[.int .i64 0, .int .u64 0, .slice none 0 0, .slice none 0 0] 37)) s
  have hz1 : (w.alloc (.cells #[.int .i64 0, .int .u64 0, .slice none 0 0, .slice none 0 0] 37)).heap.size = w.heap.size + 1 := by simp
  rw [hz1] at hrun hrd hb hz
  obtain ⟨⟨z0, z1, z2, z3⟩, f0, f1, f2, f3⟩ := zero_cells hb
  have HRD := Lib.hid hrd
  have HB := Lib.hid hb
  have HZ := Lib.hid hz
  have HS := Lib.hid hs
  have HLO := Lib.hid hlo
  clear hrd hb hz hz1 hs hlo
  go_enter Tryz.func121, Tryz.ntmps121
  go_wp2_with fail
  have hsz4 : ((((W'.setCell ⟨w.heap.size, 0, none⟩ (.int .i64 3)).setCell ⟨w.heap.size, 1, none⟩ (.int .u64 0)).setCell ⟨w.heap.size, 2, none⟩ (.slice (some ⟨w.heap.size + 1, 0, none⟩) s.size c)).setCell ⟨w.heap.size, 3, none⟩ (.slice none 0 0)).heap.size = W'.heap.size := by simp [World.setCell]
  refine bodyPost_ret (v := .agg #[.int .i64 3, .int .u64 0, .slice (some ⟨w.heap.size + 1, 0, none⟩) s.size c, .slice none 0 0]) (by simp [results, Tryz.results121, go_sem, z0, z1, z2, z3]) rfl ⟨_, rfl, RdI.mk_data (by decide) hc HS.out (Rd.mask_one ?_ (Nat.le_trans HLO.out (Nat.le_succ _))), ?_⟩
  · rw [hsz4, HZ.out]
    exact HRD.out.set4 (fun _ b o h => (by cases h; omega))
  · exact below_set4 (((Below.refl _ _).alloc (Nat.le_refl _) _).trans (HB.out.mono (Nat.le_succ _))) (Nat.le_refl _)
end Go.Proofs.YtanbjifdcplmnaaGreatDoor
/- What layer 4's questions about bytes and texts return: isLetter, or's function, only (at both), isName; strings.Cut at one byte. -/
namespace Go.Proofs.YtanbjifdcplmnaaGreatDoor
open Go.RowKit

theorem letter_num (x : UInt8) : letterB x = ((decide (97 ≤ x.toNat) && decide (x.toNat ≤ 122)) || ((decide (48 ≤ x.toNat) && decide (x.toNat ≤ 57)) || (decide (x.toNat = 46) || (decide (x.toNat = 45) || decide (x.toNat = 95))))) := by
  have e : ∀ k : UInt8, (x == k) = decide (x.toNat = k.toNat) := fun k => by
    by_cases h : x = k
    · subst h; simp
    · rw [beq_eq_false_iff_ne.2 h, decide_eq_false]
      intro h2
      exact h (UInt8.toNat_inj.1 h2)
  unfold letterB
  rw [e 46, e 45, e 95]
  rfl

set_option maxRecDepth 100000 in
set_option maxHeartbeats 1000000 in
theorem isletter_n (X : Nat) (w : World) :
    Calls Tryz.prog 127 #[.int .u8 (X : Int)] w fun e w' => e = .returned (.bool ((decide (97 ≤ X) && decide (X ≤ 122)) || ((decide (48 ≤ X) && decide (X ≤ 57)) || (decide (X = 46) || (decide (X = 45) || decide (X = 95)))))) ∧ w = w' := by
  obtain ⟨R, hR⟩ : ∃ R, R = ((decide (97 ≤ X) && decide (X ≤ 122)) || ((decide (48 ≤ X) && decide (X ≤ 57)) || (decide (X = 46) || (decide (X = 45) || decide (X = 95))))) := ⟨_, rfl⟩
  rw [← hR]
  have HR := Lib.hid hR
  clear hR
  go_enter Tryz.func127, Tryz.ntmps127
  go_wp2
  all_goals go_ret
  all_goals
    refine ⟨congrArg (fun b => Ending.returned (Value.bool b)) ((?_ : _ = _).trans HR.out.symm), rfl⟩
    rw [Bool.eq_iff_iff]
    simp
    try omega
theorem isletter_any (x : UInt8) (w : World) :
    Calls Tryz.prog 127 #[.int .u8 (x.toNat : Int)] w fun e w' => e = .returned (.bool (letterB x)) ∧ w = w' := by
  rw [letter_num]
  exact isletter_n x.toNat w

/-- The function that or answers, of isLetter and a slash. -/
def lsFn (b1 b2 : Nat) : Value := .func (.func 131) #[] #[.pointer (some ⟨b1, 0, none⟩), .pointer (some ⟨b2, 0, none⟩)]
structure LsAt2 (b1 b2 : Nat) (w : World) : Prop where
  f : w.cell? ⟨b1, 0, none⟩ = some (.func (.func 127) #[] #[])
  s : w.cell? ⟨b2, 0, none⟩ = some (.string ⟨#[47]⟩)
end Go.Proofs.YtanbjifdcplmnaaGreatDoor
/- What layer 4's only returns, and strings.Cut at one byte. -/
namespace Go.Proofs.YtanbjifdcplmnaaGreatDoor
open Go.RowKit

set_option maxRecDepth 100000 in
set_option maxHeartbeats 1000000 in
theorem ls_any (x : UInt8) (b1 b2 : Nat) (w : World) (h : LsAt2 b1 b2 w) :
    Calls Tryz.prog 131 #[.int .u8 (x.toNat : Int), .pointer (some ⟨b1, 0, none⟩), .pointer (some ⟨b2, 0, none⟩)] w fun e w' => e = .returned (.bool (lsB x)) ∧ w = w' := by
  have h1 := h.f
  have h2 := h.s
  have C1 := Lib.hid (isletter_any x w)
  have C2 := Lib.hid (Tryz.strings_IndexByte ⟨#[47]⟩ (x.toNat : Int) w)
  have e2 : Lib.indexByte (⟨#[47]⟩ : ByteArray).data.toList (x.toNat : Int).toNat.toUInt8 = if x = 47 then 0 else -1 := by
    have ex : (x.toNat : Int).toNat.toUInt8 = x := by simp
    rw [ex]
    show Lib.indexByte [47] x = _
    simp only [Lib.indexByte]
    by_cases hx : x = 47
    · subst hx; rfl
    · have : ((47 : UInt8) == x) = false := beq_eq_false_iff_ne.2 (fun e => hx e.symm)
      rw [this, if_neg hx]; rfl
  have E2 := Lib.hid e2
  have hl : lsB x = (letterB x || decide (x = 47)) := by
    unfold lsB
    rw [Bool.or_comm]
    congr 1
  obtain ⟨R, hR⟩ : ∃ R, R = lsB x := ⟨_, rfl⟩
  rw [← hR]
  rw [← hR] at hl
  have HL := Lib.hid hl
  clear hl hR e2 h
  generalize Lib.indexByte (⟨#[47]⟩ : ByteArray).data.toList (x.toNat : Int).toNat.toUInt8 = I at *
  generalize letterB x = L at *
  generalize x.toNat = X at *
  go_enter Tryz.func131, Tryz.ntmps131
  go_wp2_with (first
    | (go_at_call 127; refine C1.out.mono ?_; rintro e w' ⟨rfl, rfl⟩; cases L)
    | (go_at_call 132; refine C2.out.mono ?_; rintro e w' ⟨rfl, rfl⟩)
    | fail)
  all_goals go_ret
  all_goals
    refine ⟨congrArg (fun b => Ending.returned (Value.bool b)) ((?_ : _ = _).trans HL.out.symm), rfl⟩
  all_goals (try rw [E2.out])
  all_goals (by_cases hx : x = 47 <;> simp [hx])

set_option maxRecDepth 100000 in
set_option maxHeartbeats 1000000 in
/-- only, asking isLetter. -/
theorem only_letter (s : ByteArray) (w : World) (hs : s.size ≤ 140737488355328) :
    Calls Tryz.prog 126 #[.string s, .func (.func 127) #[] #[]] w fun e w' => e = .returned (.bool (s.data.toList.all letterB)) ∧ w = w' := by
  have hsz : s.size = s.data.toList.length := Lib.size_eq s
  obtain ⟨R, hR⟩ : ∃ R, R = s.data.toList.all letterB := ⟨_, rfl⟩
  rw [← hR]
  have HR := Lib.hid hR
  have HS := Lib.hid hsz
  clear hR hsz
  go_enter Tryz.func126, Tryz.ntmps126
  go_wp2_with fail
  go_loop [8] (fun i => ∃ k : Nat, k ≤ s.size ∧ i = .int .i64 k ∧ Hid ((s.data.toList.take k).all letterB = true)) (fun i => s.size - (intOf i).toNat)
  case atStart => exact ⟨0, Nat.zero_le _, rfl, by show _ = _; simp⟩
  case round =>
    obtain ⟨k, hk, rfl, hp⟩ := hrel
    by_cases hlt : k < s.size
    · have hkl : k < s.data.toList.length := by rw [← HS.out]; exact hlt
      obtain ⟨x, hx⟩ : ∃ x, x = s.data.toList[k]'hkl := ⟨_, rfl⟩
      have hix : ∀ W, (Instr.index 9 (.string s) (.int .i64 (k : Int))).run Tryz.prog W = .ok (.int .u8 x.toNat) W := by
        intro W
        rw [hx]
        go_simp
        rfl
      have hstep : (s.data.toList.take (k + 1)).all letterB = letterB x := by
        rw [List.take_succ_eq_append_getElem hkl, List.all_append, hp.out, Bool.true_and, ← hx]
        simp
      have HST := Lib.hid hstep
      have C1 := Lib.hid (isletter_any x w)
      clear hx hstep
      have hkk : decide ((k : Int) < (s.size : Int)) = true := by simp; omega
      cases hlx : letterB x with
      | true =>
        rw [hlx] at C1 HST
        go_wp2_with (first
          | (go_at_call 127; refine C1.out.mono ?_; rintro e w' ⟨rfl, rfl⟩)
          | fail)
        go_round
        case rel => exact ⟨k + 1, by omega, by go_num, HST.out⟩
        case measure => simp [intOf]; omega
      | false =>
        rw [hlx] at C1 HST
        have hf : R = false := by
          rw [HR.out, ← List.take_append_drop (k + 1) s.data.toList, List.all_append, HST.out, Bool.false_and]
        subst hf
        go_wp2_with (first
          | (go_at_call 127; refine C1.out.mono ?_; rintro e w' ⟨rfl, rfl⟩)
          | fail)
        go_ret
        exact ⟨rfl, rfl⟩
    · obtain rfl : k = s.size := by omega
      have e : R = true := by
        have h := hp.out
        rw [HS.out, List.take_length] at h
        rw [HR.out, h]
      subst e
      have hkk : decide ((s.size : Int) < (s.size : Int)) = false := by simp
      go_wp2_with fail
      go_ret
      exact ⟨rfl, rfl⟩
set_option maxRecDepth 100000 in
set_option maxHeartbeats 1000000 in
/-- only, asking for a letter or a slash. -/
theorem only_ls (s : ByteArray) (b1 b2 : Nat) (w : World) (hat : LsAt2 b1 b2 w) (hs : s.size ≤ 140737488355328) :
    Calls Tryz.prog 126 #[.string s, lsFn b1 b2] w fun e w' => e = .returned (.bool (s.data.toList.all lsB)) ∧ w = w' := by
  unfold lsFn
  have hsz : s.size = s.data.toList.length := Lib.size_eq s
  obtain ⟨R, hR⟩ : ∃ R, R = s.data.toList.all lsB := ⟨_, rfl⟩
  rw [← hR]
  have HR := Lib.hid hR
  have HS := Lib.hid hsz
  clear hR hsz
  go_enter Tryz.func126, Tryz.ntmps126
  go_wp2_with fail
  go_loop [8] (fun i => ∃ k : Nat, k ≤ s.size ∧ i = .int .i64 k ∧ Hid ((s.data.toList.take k).all lsB = true)) (fun i => s.size - (intOf i).toNat)
  case atStart => exact ⟨0, Nat.zero_le _, rfl, by show _ = _; simp⟩
  case round =>
    obtain ⟨k, hk, rfl, hp⟩ := hrel
    by_cases hlt : k < s.size
    · have hkl : k < s.data.toList.length := by rw [← HS.out]; exact hlt
      obtain ⟨x, hx⟩ : ∃ x, x = s.data.toList[k]'hkl := ⟨_, rfl⟩
      have hix : ∀ W, (Instr.index 9 (.string s) (.int .i64 (k : Int))).run Tryz.prog W = .ok (.int .u8 x.toNat) W := by
        intro W
        rw [hx]
        go_simp
        rfl
      have hstep : (s.data.toList.take (k + 1)).all lsB = lsB x := by
        rw [List.take_succ_eq_append_getElem hkl, List.all_append, hp.out, Bool.true_and, ← hx]
        simp
      have HST := Lib.hid hstep
      have C1 := Lib.hid (ls_any x b1 b2 w hat)
      clear hx hstep
      have hkk : decide ((k : Int) < (s.size : Int)) = true := by simp; omega
      cases hlx : lsB x with
      | true =>
        rw [hlx] at C1 HST
        go_wp2_with (first
          | (go_at_call 131; refine C1.out.mono ?_; rintro e w' ⟨rfl, rfl⟩)
          | fail)
        go_round
        case rel => exact ⟨k + 1, by omega, by go_num, HST.out⟩
        case measure => simp [intOf]; omega
      | false =>
        rw [hlx] at C1 HST
        have hf : R = false := by
          rw [HR.out, ← List.take_append_drop (k + 1) s.data.toList, List.all_append, HST.out, Bool.false_and]
        subst hf
        go_wp2_with (first
          | (go_at_call 131; refine C1.out.mono ?_; rintro e w' ⟨rfl, rfl⟩)
          | fail)
        go_ret
        exact ⟨rfl, rfl⟩
    · obtain rfl : k = s.size := by omega
      have e : R = true := by
        have h := hp.out
        rw [HS.out, List.take_length] at h
        rw [HR.out, h]
      subst e
      have hkk : decide ((s.size : Int) < (s.size : Int)) = false := by simp
      go_wp2_with fail
      go_ret
      exact ⟨rfl, rfl⟩
/-- What strings.Cut answers at the one byte c. -/
def cutV (c : UInt8) (s : ByteArray) : Value := .tuple #[.string ⟨(ahead c s.data.toList).toArray⟩, .string ⟨(behind c s.data.toList).toArray⟩, .bool (hasB c s.data.toList)]

set_option maxRecDepth 100000 in
set_option maxHeartbeats 1000000 in
theorem index_any (s : ByteArray) (c : UInt8) (w : World) :
    Calls Tryz.prog 134 #[.string s, .string ⟨#[c]⟩] w fun e w' => e = .returned (.int .i64 (if hasB c s.data.toList = true then ((ahead c s.data.toList).length : Int) else -1)) ∧ w = w' := by
  have C1 := Lib.hid (Tryz.stringslite_IndexByte s (c.toNat : Int) w)
  have hi := index_ahead c s.data.toList
  have ec : (c.toNat : Int).toNat.toUInt8 = c := by simp
  obtain ⟨R, hR⟩ : ∃ R, R = (if hasB c s.data.toList = true then ((ahead c s.data.toList).length : Int) else -1) := ⟨_, rfl⟩
  rw [← hR]
  rw [← hR] at hi
  have HI := Lib.hid hi
  have HE := Lib.hid ec
  have HC : Hid (s = ⟨#[c]⟩ → R = 0) := fun e => by rw [← HI.out, e]; simp [Lib.indexByte]
  clear hi ec hR
  go_enter Tryz.func134, Tryz.ntmps134
  go_wp2_with (first
    | (go_at_call 135; refine C1.out.mono ?_; rintro e w' ⟨rfl, rfl⟩; rw [HE.out, HI.out])
    | fail)
  · have h : ([c] == s.toList) = true := by assumption
    go_ret
    refine ⟨?_, rfl⟩
    have e : s = ⟨#[c]⟩ := by
      have e1 : s.data.toList = [c] := by rw [← Lib.toList_data]; exact (beq_iff_eq.1 h).symm
      rw [← Lib.mk_data s, e1]
    rw [HC.out e]
    rfl
  · go_ret
    exact ⟨rfl, rfl⟩

set_option maxRecDepth 100000 in
set_option maxHeartbeats 1000000 in
theorem lcut_any (s : ByteArray) (c : UInt8) (w : World) (hs : s.size ≤ 140737488355328) :
    Calls Tryz.prog 130 #[.string s, .string ⟨#[c]⟩] w fun e w' => e = .returned (cutV c s) ∧ ∃ m, w' = w.drewN m := by
  have hsz : s.size = s.data.toList.length := Lib.size_eq s
  have hle := ahead_le c s.data.toList
  have C1 := Lib.hid (index_any s c w)
  unfold cutV
  by_cases hh : hasB c s.data.toList = true
  · have hlt : (ahead c s.data.toList).length < s.data.toList.length := by unfold hasB at hh; simpa using hh
    rw [if_pos hh] at C1
    have e1 : s.extract 0 (ahead c s.data.toList).length = ⟨(ahead c s.data.toList).toArray⟩ := by
      rw [Lib.extract_eq, List.drop_zero, Nat.sub_zero, ← ahead_take]
    have e2 : s.extract ((ahead c s.data.toList).length + 1) s.size = ⟨(behind c s.data.toList).toArray⟩ := by
      rw [Lib.extract_eq, hsz, List.take_of_length_le (by rw [List.length_drop]; exact Nat.le_refl _)]
      rfl
    rw [hh, ← e1, ← e2]
    generalize (ahead c s.data.toList).length = n at *
    have c1 : (0 : Int) ≤ ↑n := by omega
    have c2 : (↑n : Int) ≤ ↑s.size := by omega
    have c3 : (0 : Int) ≤ ↑n + 1 := by omega
    have c4 : (↑n + 1 : Int) ≤ ↑s.size := by omega
    have c5 : (↑n + 1 : Int) ≤ 140737488355328 := by omega
    have hwr : IntKind.i64.wrap ((n : Int) + 1) = (n : Int) + 1 := by rw [IntKind.wrap_i64]; omega
    have htn : ((n : Int) + 1).toNat = n + 1 := by omega
    clear hh e1 e2 hle hlt hsz
    go_enter Tryz.func130, Tryz.ntmps130
    go_wp2_with (go_at_call 134; refine C1.out.mono ?_; rintro e w' ⟨rfl, rfl⟩)
    go_region
    go_wp2
    go_ret3
    exact ⟨rfl, 1, rfl⟩
  · rw [Bool.not_eq_true] at hh
    have e1 := ahead_all hh
    have e2 := behind_nil hh
    rw [hh] at C1
    simp only [Bool.false_eq_true, if_false] at C1
    rw [hh, e1, e2, Lib.mk_data]
    clear hh e1 e2 hle hsz
    go_enter Tryz.func130, Tryz.ntmps130
    go_wp2_with (go_at_call 134; refine C1.out.mono ?_; rintro e w' ⟨rfl, rfl⟩)
    go_ret3
    exact ⟨rfl, 0, rfl⟩

set_option maxRecDepth 100000 in
set_option maxHeartbeats 1000000 in
theorem cut_any (s : ByteArray) (c : UInt8) (w : World) (hs : s.size ≤ 140737488355328) :
    Calls Tryz.prog 125 #[.string s, .string ⟨#[c]⟩] w fun e w' => e = .returned (cutV c s) ∧ ∃ m, w' = w.drewN m := by
  have C1 := Lib.hid (lcut_any s c w hs)
  unfold cutV at *
  go_enter Tryz.func125, Tryz.ntmps125
  go_wp2_with (go_at_call 130; refine C1.out.mono ?_; rintro e w' ⟨rfl, n, rfl⟩)
  go_ret3
  exact ⟨rfl, n, rfl⟩
end Go.Proofs.YtanbjifdcplmnaaGreatDoor
/- What the checks of layer 4 return: isName, checkDtn, checkIpn, check, Check, None; the sentinels that stand in the package's variables. -/
namespace Go.Proofs.YtanbjifdcplmnaaGreatDoor
open Go.RowKit

/-- Where the four sentinels' texts lie. -/
structure Snt where
  s : Addr
  n : Addr
  u : Addr
  f : Addr
def OneOf (A : Snt) (a : Addr) : Prop := a = A.s ∨ a = A.n ∨ a = A.u ∨ a = A.f
def snt (a : Addr) : Value := .iface 198 (.pointer (some a))
/-- The variables of the package. -/
structure Lds (A : Snt) (w : World) : Prop where
  cs : w.cell? ⟨2, 0, none⟩ = some (snt A.s)
  cn : w.cell? ⟨3, 0, none⟩ = some (snt A.n)
  cu : w.cell? ⟨4, 0, none⟩ = some (snt A.u)
  cf : w.cell? ⟨1, 0, none⟩ = some (snt A.f)
  row : ∀ a, OneOf A a → ∃ c t, w.heap[a.block]? = some (.cells c t (0, 0))
  ne : A.s ≠ A.n ∧ A.s ≠ A.u ∧ A.s ≠ A.f ∧ A.n ≠ A.u ∧ A.n ≠ A.f ∧ A.u ≠ A.f
theorem Lds.below {A : Snt} {w w' : World} {B : Nat} (h : Lds A w) (hb : Below B w w') (hB : w.heap.size ≤ B) : Lds A w' := by
  have k : ∀ {p : Addr} {v : Value}, w.cell? p = some v → w'.cell? p = some v := fun hc => (hb.cell (Nat.lt_of_lt_of_le (World.block_lt_of_cell? w _ hc) hB)).trans hc
  refine ⟨k h.cs, k h.cn, k h.cu, k h.cf, ?_, h.ne⟩
  · intro a ha
    obtain ⟨c, t, hc⟩ := h.row a ha
    have hl : a.block < w.heap.size := by
      rcases Nat.lt_or_ge a.block w.heap.size with h1 | h1
      · exact h1
      · rw [Array.getElem?_eq_none h1] at hc; cases hc
    exact ⟨c, t, (hb.block a.block (Nat.lt_of_lt_of_le hl hB)).trans hc⟩
theorem Lds.alloc {A : Snt} {w : World} (h : Lds A w) (o : Obj) : Lds A (w.alloc o) := h.below ((Below.refl _ _).alloc (Nat.le_refl _) o) (Nat.le_refl _)

theorem drewN_below {B : Nat} {w : World} (m : Nat) : Below B w (w.drewN m) := ⟨rfl, rfl, rfl, Nat.le_refl _, fun _ _ => rfl⟩

set_option maxRecDepth 100000 in
set_option maxHeartbeats 1000000 in
theorem or_any (w : World) :
    Calls Tryz.prog 128 #[.func (.func 127) #[] #[], .string ⟨#[47]⟩] w fun e w' => ∃ b1 b2, e = .returned (lsFn b1 b2) ∧ LsAt2 b1 b2 w' ∧ Below w.heap.size w w' := by
  go_enter Tryz.func128, Tryz.ntmps128
  go_wp2_with fail
  refine bodyPost_ret (v := lsFn w.heap.size (w.heap.size + 1)) (by simp [results, Tryz.results128, go_sem, lsFn]) rfl ⟨w.heap.size, w.heap.size + 1, rfl, ⟨?_, ?_⟩, ?_⟩
  · rw [World.cell?_alloc_lt _ _ _ (by simp)]; rw [World.cell?_alloc_at _ _ _ _ rfl]; rfl
  · rw [World.cell?_alloc_at _ _ _ _ (by simp)]; rfl
  · exact ((Below.refl _ _).alloc (Nat.le_refl _) _).alloc (by simp) _

set_option maxRecDepth 100000 in
set_option maxHeartbeats 1000000 in
theorem isname_any (s : ByteArray) (w : World) (hs : s.size ≤ 140737488355328) :
    Calls Tryz.prog 123 #[.string s] w fun e w' => e = .returned (.bool (nameB s.data.toList)) ∧ Below w.heap.size w w' := by
  have hsz : s.size = s.data.toList.length := Lib.size_eq s
  rw [← nameC_eq]
  obtain ⟨R, hR⟩ : ∃ R, R = nameC s.data.toList := ⟨_, rfl⟩
  rw [← hR]
  unfold nameC at hR
  by_cases h64 : 64 < s.size
  · have hr : R = false := by rw [hR, decide_eq_false (by omega)]; rfl
    subst hr
    clear hR hsz
    have h64i : decide ((64 : Int) < (s.size : Int)) = true := by simp; omega
    go_enter Tryz.func123, Tryz.ntmps123
    go_wp2_with fail
    go_ret
    exact ⟨rfl, Below.refl _ _⟩
  have h65 : s.size ≤ 64 := by omega
  rw [decide_eq_true (by omega), Bool.true_and] at hR
  have C1 := Lib.hid (Tryz.strings_CutPrefix s ⟨#[47, 47]⟩ w)
  have e47 : (⟨#[47, 47]⟩ : ByteArray).data.toList = [47, 47] := rfl
  rw [e47] at C1
  by_cases hp : Lib.hasPrefix s.data.toList [47, 47] = true
  · rw [hp, Bool.true_and] at hR
    have et : Lib.trimPrefix s.data.toList [47, 47] = s.data.toList.drop 2 := by unfold Lib.trimPrefix; rw [if_pos hp]; rfl
    rw [hp, et] at C1
    have hrl : (s.data.toList.drop 2).length ≤ 64 := by rw [List.length_drop]; omega
    generalize s.data.toList.drop 2 = r at *
    have C2 := Lib.hid (fun W => cut_any ⟨r.toArray⟩ 47 W (by rw [Lib.size_eq]; simp; omega))
    unfold cutV at C2
    rw [show (⟨r.toArray⟩ : ByteArray).data.toList = r by simp] at C2
    have hal := ahead_le 47 r
    have hbl : (behind 47 r).length ≤ 64 := by unfold behind; rw [List.length_drop]; omega
    by_cases hh : hasB 47 r = true
    · rw [hh, Bool.true_and] at hR
      rw [hh] at C2
      generalize ahead 47 r = u at *
      generalize behind 47 r = t at *
      have hus : (⟨u.toArray⟩ : ByteArray).data.toList = u := by simp
      have hts : (⟨t.toArray⟩ : ByteArray).data.toList = t := by simp
      have C3 := Lib.hid (fun W => only_letter ⟨u.toArray⟩ W (by rw [Lib.size_eq, hus]; omega))
      have C5 := Lib.hid (fun b1 b2 W h => only_ls ⟨t.toArray⟩ b1 b2 W h (by rw [Lib.size_eq, hts]; omega))
      rw [hus] at C3
      rw [hts] at C5
      clear hp et hrl hal hbl hh hsz hus hts
      have hue : (⟨u.toArray⟩ : ByteArray).toList.isEmpty = u.isEmpty := by rw [Lib.toList_data]
      generalize (⟨u.toArray⟩ : ByteArray) = us at *
      generalize (⟨t.toArray⟩ : ByteArray) = ts at *
      cases hui : u.isEmpty with
      | true =>
        rw [hui] at hue hR
        have hr : R = false := hR
        subst hr
        clear hR hui
        go_enter Tryz.func123, Tryz.ntmps123
        go_wp2_with (first
          | (go_at_call 124; refine C1.out.mono ?_; rintro e w' ⟨rfl, rfl⟩)
          | (go_at_call 125; refine (C2.out _).mono ?_; rintro e w' ⟨rfl, m, rfl⟩)
          | fail)
        go_ret
        exact ⟨rfl, drewN_below m⟩
      | false =>
        rw [hui] at hue hR
        have hR2 : R = (u.all letterB && t.all lsB) := hR
        clear hR hui
        generalize t.all lsB = T at *
        cases hul : u.all letterB with
        | false =>
          rw [hul] at C3 hR2
          have hr : R = false := hR2
          subst hr
          clear hR2 hul
          go_enter Tryz.func123, Tryz.ntmps123
          go_wp2_with (first
            | (go_at_call 124; refine C1.out.mono ?_; rintro e w' ⟨rfl, rfl⟩)
            | (go_at_call 125; refine (C2.out _).mono ?_; rintro e w' ⟨rfl, m, rfl⟩)
            | (go_at_call 126; refine (C3.out _).mono ?_; rintro e w' ⟨rfl, rfl⟩)
            | fail)
          go_ret
          exact ⟨rfl, drewN_below m⟩
        | true =>
          rw [hul] at C3 hR2
          have hr : R = T := hR2
          subst hr
          clear hR2 hul
          go_enter Tryz.func123, Tryz.ntmps123
          go_wp2_with (first
            | (go_at_call 124; refine C1.out.mono ?_; rintro e w' ⟨rfl, rfl⟩)
            | (go_at_call 125; refine (C2.out _).mono ?_; rintro e w' ⟨rfl, m, rfl⟩)
            | fail)
          refine (C3.out _).mono ?_
          rintro e w1 ⟨rfl, rfl⟩
          go_wp2_with fail
          refine (or_any _).mono ?_
          rintro e w2 ⟨b1, b2, rfl, hat, hb⟩
          have C6 := Lib.hid (C5.out b1 b2 w2 hat)
          have HB := Lib.hid hb
          clear hat hb C5
          unfold lsFn at *
          go_wp2_with fail
          refine C6.out.mono ?_
          rintro e w3 ⟨rfl, rfl⟩
          go_wp2_with fail
          go_ret
          exact ⟨rfl, (drewN_below m).trans HB.out⟩
    · rw [Bool.not_eq_true] at hh
      rw [hh, Bool.false_and] at hR
      rw [hh] at C2
      subst hR
      generalize (⟨(ahead 47 r).toArray⟩ : ByteArray) = us at *
      generalize (⟨(behind 47 r).toArray⟩ : ByteArray) = ts at *
      clear hh hal hbl hrl hsz
      go_enter Tryz.func123, Tryz.ntmps123
      go_wp2_with (first
        | (go_at_call 124; refine C1.out.mono ?_; rintro e w' ⟨rfl, rfl⟩)
        | (go_at_call 125; refine (C2.out _).mono ?_; rintro e w' ⟨rfl, m, rfl⟩)
        | fail)
      go_ret
      exact ⟨rfl, drewN_below m⟩
  · rw [Bool.not_eq_true] at hp
    rw [hp, Bool.false_and] at hR
    rw [hp] at C1
    subst hR
    have hrs : (⟨(Lib.trimPrefix s.data.toList [47, 47]).toArray⟩ : ByteArray).size ≤ 64 := by
      unfold Lib.trimPrefix
      rw [hp, Lib.size_eq]
      simp
      omega
    generalize (⟨(Lib.trimPrefix s.data.toList [47, 47]).toArray⟩ : ByteArray) = r at *
    have C2 := Lib.hid (fun W => cut_any r 47 W (by omega))
    unfold cutV at C2
    generalize (⟨(ahead 47 r.data.toList).toArray⟩ : ByteArray) = us at *
    generalize (⟨(behind 47 r.data.toList).toArray⟩ : ByteArray) = ts at *
    generalize hasB 47 r.data.toList = H at *
    clear hp hsz
    go_enter Tryz.func123, Tryz.ntmps123
    go_wp2_with (first
      | (go_at_call 124; refine C1.out.mono ?_; rintro e w' ⟨rfl, rfl⟩)
      | (go_at_call 125; refine (C2.out _).mono ?_; rintro e w' ⟨rfl, m, rfl⟩)
      | fail)
    go_ret
    exact ⟨rfl, drewN_below m⟩
/-- An endpoint as it stands in slots. -/
def epdV (sc : Int) (s : ByteArray) (n v : Nat) : Value := .agg #[.int .i64 sc, .string s, .int .u64 (n : Int), .int .u64 (v : Int)]
def ep (sc : Int) (s : ByteArray) (n v : Nat) : Epd := ⟨sc, s.data.toList, n, v⟩
/-- Why an endpoint may not be: nil where it may. -/
def Why (A : Snt) (b : Bool) (w : World) (e : Ending) (w' : World) : Prop := Below w.heap.size w w' ∧ ((b = true ∧ e = .returned .nilIface) ∨ (b = false ∧ ∃ a, OneOf A a ∧ e = .returned (snt a)))

theorem str_empty (s : ByteArray) : s.toList.isEmpty = s.data.toList.isEmpty := by rw [Lib.toList_data]

set_option maxRecDepth 100000 in
set_option maxHeartbeats 1000000 in
theorem checkdtn_any (A : Snt) (s : ByteArray) (n v : Nat) (w : World) (hA : Lds A w) (hs : s.size ≤ 140737488355328) :
    Calls Tryz.prog 118 #[epdV 1 s n v] w (Why A (checkB (ep 1 s n v)) w) := by
  obtain ⟨R, hR⟩ : ∃ R, R = checkB (ep 1 s n v) := ⟨_, rfl⟩
  rw [← hR]
  have hR2 : R = ((n == 0 && v == 0) && (s.data.toList.isEmpty || nameB s.data.toList)) := by rw [hR]; unfold checkB; rw [if_pos (show (ep 1 s n v).scheme = 1 from rfl)]; rfl
  clear hR
  have C1 := Lib.hid (fun W => isname_any s W hs)
  have hse := str_empty s
  unfold epdV
  have HA := Lib.hid hA
  have gu : (w.alloc (.cells #[.int .i64 1, .string s, .int .u64 (n : Int), .int .u64 (v : Int)] 46)).cell? ⟨4, 0, none⟩ = some (snt A.u) := (hA.alloc _).cu
  have gn : (w.alloc (.cells #[.int .i64 1, .string s, .int .u64 (n : Int), .int .u64 (v : Int)] 46)).cell? ⟨3, 0, none⟩ = some (snt A.n) := (hA.alloc _).cn
  clear hA
  unfold snt at gu gn
  have gg : ∀ (w2 : World), Below (w.alloc (.cells #[.int .i64 1, .string s, .int .u64 (n : Int), .int .u64 (v : Int)] 46)).heap.size (w.alloc (.cells #[.int .i64 1, .string s, .int .u64 (n : Int), .int .u64 (v : Int)] 46)) w2 → w2.cell? ⟨3, 0, none⟩ = some (.iface 198 (.pointer (some A.n))) := fun w2 hb => (((HA.out.alloc _).below hb (Nat.le_refl _)).cn)
  have GG := Lib.hid gg
  clear gg
  by_cases h0 : n = 0 ∧ v = 0
  · obtain ⟨rfl, rfl⟩ := h0
    have hR3 : R = (s.data.toList.isEmpty || nameB s.data.toList) := hR2
    clear hR2
    cases he : s.data.toList.isEmpty with
    | true =>
      rw [he] at hR3 hse
      have hr : R = true := hR3
      subst hr
      clear hR3 he
      go_enter Tryz.func118, Tryz.ntmps118
      go_wp2_with fail
      go_ret
      exact ⟨(Below.refl _ _).alloc (Nat.le_refl _) _, .inl ⟨rfl, rfl⟩⟩
    | false =>
      rw [he] at hR3 hse
      have hr : R = nameB s.data.toList := hR3
      generalize nameB s.data.toList = N at *
      subst hr
      clear hR3 he
      cases R with
      | true =>
        go_enter Tryz.func118, Tryz.ntmps118
        go_wp2_with fail
        refine (C1.out _).mono ?_
        rintro e w1 ⟨rfl, hb⟩
        have HB := Lib.hid hb
        clear hb
        go_wp2_with fail
        go_ret
        exact ⟨((Below.refl _ _).alloc (Nat.le_refl _) _).trans (HB.out.mono (le_alloc _ _)), .inl ⟨rfl, rfl⟩⟩
      | false =>
        go_enter Tryz.func118, Tryz.ntmps118
        go_wp2_with fail
        refine (C1.out _).mono ?_
        rintro e w1 ⟨rfl, hb⟩
        have g1 := GG.out _ hb
        have HB := Lib.hid hb
        clear hb
        go_wp2_with fail
        go_ret
        exact ⟨((Below.refl _ _).alloc (Nat.le_refl _) _).trans (HB.out.mono (le_alloc _ _)), .inr ⟨rfl, A.n, .inr (.inl rfl), rfl⟩⟩
  · have hr : R = false := by
      rw [hR2]
      have : (n == 0 && v == 0) = false := by
        rw [Bool.eq_false_iff]
        intro h
        simp at h
        exact h0 h
      rw [this, Bool.false_and]
    subst hr
    clear hR2
    have h1 : ¬ ((n : Int) = 0 ∧ (v : Int) = 0) := by omega
    clear h0 GG HA C1 hse
    generalize (n : Int) = N at *
    generalize (v : Int) = V at *
    by_cases hn : N = 0
    · subst hn
      have hv : ¬ V = 0 := fun h => h1 ⟨rfl, h⟩
      clear h1
      go_enter Tryz.func118, Tryz.ntmps118
      go_wp2_with fail
      go_ret
      exact ⟨(Below.refl _ _).alloc (Nat.le_refl _) _, .inr ⟨rfl, A.u, .inr (.inr (.inl rfl)), rfl⟩⟩
    · clear h1
      go_enter Tryz.func118, Tryz.ntmps118
      go_wp2_with fail
      go_ret
      exact ⟨(Below.refl _ _).alloc (Nat.le_refl _) _, .inr ⟨rfl, A.u, .inr (.inr (.inl rfl)), rfl⟩⟩
end Go.Proofs.YtanbjifdcplmnaaGreatDoor
/- errors.Is over the chains of layer 4: a sentinel, or a fault by value round such a chain; and numberOf. -/
namespace Go.Proofs.YtanbjifdcplmnaaGreatDoor
open Go.RowKit Go.Extern.Stop Go.Stop Go.Extern

/-- A chain of so many faults that ends in the sentinel at a. -/
inductive Ch (A : Snt) : Nat → Value → Addr → Prop
  | leaf (a : Addr) : OneOf A a → Ch A 0 (snt a) a
  | wrap (k : Nat) (s : ByteArray) (t : TypeId) (v : Value) (a : Addr) : Ch A k (.iface t v) a → Ch A (k + 1) (.iface 134 (.agg #[.string s, .iface t v])) a

theorem isTypeOf (v : Value) (w : World) : (Extern.ReflectliteType.typeOf #[.iface 198 v]).run Tryz.prog w = .ok (.iface 155 (.agg #[.pointer (some ⟨6, 198, none⟩)])) w := by kernel_rfl
theorem isComparable (w : World) : ((Extern.ReflectliteType.method fun t => do Extern.Rtype.noPackHeld "Comparable" t; (fun a => Value.bool a.comparable) <$> typeInfo t) #[.agg #[.pointer (some ⟨6, 198, none⟩)]]).run Tryz.prog w = .ok (.bool true) w := by kernel_rfl
theorem isMethodComparable (n : Nat) (v : Value) (w : World) : (Go.method (n + 8) 155 v "Comparable").run Tryz.prog w = .ok (167, v) w := by kernel_rfl
theorem isComp : (Tryz.prog.info? 198).map (·.comparable) = some true := by kernel_rfl
theorem isSize : (Tryz.prog.info? 219).map (·.size) = some 1 := by kernel_rfl

theorem noIsE (v : Value) (xT : TypeId) (w : World) : (Instr.typeAssert (.iface 198 v) xT 182 true).run Tryz.prog w = .ok (.tuple #[.nilIface, .bool false]) w := run_typeAssert_lacksB Tryz.underlying182 (by kernel_rfl) (by kernel_rfl) v xT w
theorem noUnwrapE (v : Value) (xT : TypeId) (w : World) : (Instr.typeAssert (.iface 198 v) xT 163 true).run Tryz.prog w = .ok (.tuple #[.nilIface, .bool false]) w := run_typeAssert_lacksB Tryz.underlying163 (by kernel_rfl) (by kernel_rfl) v xT w
theorem noUnwrapsE (v : Value) (xT : TypeId) (w : World) : (Instr.typeAssert (.iface 198 v) xT 165 true).run Tryz.prog w = .ok (.tuple #[.nilIface, .bool false]) w := run_typeAssert_lacksB Tryz.underlying165 (by kernel_rfl) (by kernel_rfl) v xT w
theorem noIsW (v : Value) (xT : TypeId) (w : World) : (Instr.typeAssert (.iface 134 v) xT 182 true).run Tryz.prog w = .ok (.tuple #[.nilIface, .bool false]) w := run_typeAssert_lacksB Tryz.underlying182 (by kernel_rfl) (by kernel_rfl) v xT w
theorem hasUnwrapW (v : Value) (xT : TypeId) (w : World) : (Instr.typeAssert (.iface 134 v) xT 163 true).run Tryz.prog w = .ok (.tuple #[.iface 134 v, .bool true]) w := run_typeAssert_hasB Tryz.underlying163 (by kernel_rfl) v xT w
theorem methodUnwrap (n : Nat) (v : Value) (w : World) : (Go.method (n + 8) 134 v "Unwrap").run Tryz.prog w = .ok (163, v) w := by kernel_rfl

/-- How many links a chain has, by its value. -/
def links : Nat → Value → Nat
  | 0, _ => 0
  | n + 1, .iface _ (.agg #[_, v]) => links n v + 1
  | _ + 1, _ => 0
theorem Ch.len {A : Snt} {k : Nat} {E : Value} {a : Addr} (h : Ch A k E a) : ∀ n, k < n → links n E = k := by
  induction h with
  | leaf a _ =>
    intro n hn
    obtain ⟨m, rfl⟩ : ∃ m, n = m + 1 := ⟨n - 1, by omega⟩
    rfl
  | wrap k s t v a h ih =>
    intro n hn
    obtain ⟨m, rfl⟩ : ∃ m, n = m + 1 := ⟨n - 1, by omega⟩
    show links m (.iface t v) + 1 = k + 1
    rw [ih m (by omega)]
theorem Ch.one {A : Snt} {k : Nat} {E : Value} {a : Addr} (h : Ch A k E a) : OneOf A a := by
  induction h with
  | leaf a h => exact h
  | wrap k s t v a h ih => exact ih

set_option maxRecDepth 1000000 in
set_option maxHeartbeats 4000000 in
theorem is_any (A : Snt) (k : Nat) (E : Value) (a b : Addr) (w : World) (hA : Lds A w) (hch : Ch A k E a) (hk : k ≤ 8) (hob : OneOf A b) :
    Calls Tryz.prog 103 #[E, snt b, .bool true] w fun e w' => e = .returned (.bool (decide (a = b))) ∧ Below w.heap.size w w' := by
  obtain ⟨i, hi, hcmp⟩ := Option.map_eq_some_iff.1 isComp
  obtain ⟨j, hj, hjs⟩ := Option.map_eq_some_iff.1 isSize
  have nE := noIsE
  have uE := noUnwrapE
  have vE := noUnwrapsE
  have nW := noIsW
  have uW := hasUnwrapW
  have mU := methodUnwrap
  have HA := Lib.hid hA
  have HCH := Lib.hid hch
  obtain ⟨R, hR⟩ : ∃ R, R = decide (a = b) := ⟨_, rfl⟩
  rw [← hR]
  have HR := Lib.hid hR
  clear hA hch hR
  unfold snt
  go_enter Tryz.func103, Tryz.ntmps103
  go_wp2_with fail
  go_loopw [0] (fun E' wl => Hid (Below w.heap.size w wl) ∧ ∃ k', k' ≤ 8 ∧ Ch A k' E' a) (fun E' _ => links 9 E')
  case atStart => exact ⟨Below.refl _ _, k, hk, HCH.out⟩
  case round =>
    obtain ⟨HB, k', hk', hc'⟩ := hrel
    have hA2 := HA.out.below HB.out (Nat.le_refl _)
    obtain ⟨cb, tb, hb⟩ := hA2.row b hob
    have hlen0 := hc'.len 9 (by omega)
    cases hc' with
    | leaf a hoa =>
      obtain ⟨ca, ta, ha⟩ := hA2.row a hoa
      unfold snt at *
      by_cases hab : a = b
      · subst hab
        have hr : R = true := by rw [HR.out]; simp
        subst hr
        have heq := run_eql_iface_ptr_same (P := Tryz.prog) wr a Tryz.underlying60 Tryz.underlying198 hi hcmp hj
        clear hA2
        go_wp2_with fail
        go_ret
        exact ⟨rfl, HB.out⟩
      · have hr : R = false := by rw [HR.out]; simp [hab]
        subst hr
        have heq := run_eql_iface_ptr_other (P := Tryz.prog) wr Tryz.underlying60 Tryz.underlying198 hi hcmp hj (by rw [hjs]; decide) hab ha hb
        clear hA2
        go_wp2_with fail
        go_ret
        exact ⟨rfl, HB.out⟩
    | wrap k1 s t v a h1 =>
      have hty := run_eql_iface_types (P := Tryz.prog) 134 198 (.agg #[.string s, .iface t v]) (.pointer (some b)) Tryz.underlying60 (by decide) wr
      have hlen := h1.len 9 (by omega)
      have q1 := fun (W : World) (u : TypeId) (x : Value) => run_eql_iface_nil (P := Tryz.prog) (w := W) 60 (by kernel_rfl) u x
      have HC := Lib.hid h1
      have HL := Lib.hid hlen
      have HL0 := Lib.hid hlen0
      clear h1 hA2 hlen hlen0
      go_wp2
      go_roundw
      case rel => exact ⟨HB.out.trans (((Below.refl _ _).alloc (Nat.le_refl _) _).mono HB.out.size), k1, by omega, HC.out⟩
      case measure =>
        show links 9 (.iface t v) < _
        rw [HL.out, HL0.out]
        exact Nat.lt_succ_self _

set_option maxRecDepth 1000000 in
set_option maxHeartbeats 4000000 in
/-- errors.Is of a chain. -/
theorem eis_any (A : Snt) (k : Nat) (E : Value) (a b : Addr) (w : World) (hA : Lds A w) (hch : Ch A k E a) (hk : k ≤ 8) (hob : OneOf A b) :
    Calls Tryz.prog 77 #[E, snt b] w fun e w' => e = .returned (.bool (decide (a = b))) ∧ Below w.heap.size w w' := by
  have h8 := @run_callFunc_extern Tryz.prog 94 _ Extern.ReflectliteType.typeOf Tryz.func94 (by kernel_rfl) (by kernel_rfl) (by kernel_rfl) (by kernel_rfl)
  have h32 := @run_callFunc_extern Tryz.prog 167 _ (Extern.ReflectliteType.method fun t => do Extern.Rtype.noPackHeld "Comparable" t; pure (.bool (← typeInfo t).comparable)) Tryz.func167 (by kernel_rfl) (by kernel_rfl) (by kernel_rfl) (by kernel_rfl)
  have tT := isTypeOf
  have cT := isComparable
  have mR := isMethodComparable
  have C1 := Lib.hid (is_any A k E a b w hA hch hk hob)
  have q1 := fun (W : World) (u : TypeId) (x : Value) => run_eql_iface_nil (P := Tryz.prog) (w := W) 60 (by kernel_rfl) u x
  generalize decide (a = b) = R at *
  obtain ⟨t, v, rfl⟩ : ∃ t v, E = .iface t v := by cases hch <;> exact ⟨_, _, rfl⟩
  clear hA hch hob
  unfold snt at *
  go_enter Tryz.func77, Tryz.ntmps77
  go_wp2_with (first
    | (go_at_call 103; refine C1.out.mono ?_; rintro e w1 ⟨rfl, hb⟩; have HB := Lib.hid hb; clear hb)
    | go_in)
  go_ret
  exact ⟨rfl, HB.out⟩

set_option maxRecDepth 1000000 in
set_option maxHeartbeats 4000000 in
/-- errors.Is of nil. -/
theorem eis_nil (b : Addr) (w : World) :
    Calls Tryz.prog 77 #[.nilIface, snt b] w fun e w' => e = .returned (.bool false) ∧ w = w' := by
  have hn := fun (W : World) (p : Value) => run_eql_iface_nil_left (P := Tryz.prog) W 198 p Tryz.underlying60
  unfold snt
  go_enter Tryz.func77, Tryz.ntmps77
  go_wp2
  go_ret
  exact ⟨rfl, rfl⟩

set_option maxRecDepth 100000 in
set_option maxHeartbeats 4000000 in
theorem number_nil (A : Snt) (w : World) (hA : Lds A w) :
    Calls Tryz.prog 52 #[.nilIface] w fun e w' => e = .returned (.int .i64 0) ∧ w = w' := by
  have cs := hA.cs
  have cn := hA.cn
  have cu := hA.cu
  have cf := hA.cf
  clear hA
  unfold snt at *
  have C1 := Lib.hid (fun b => eis_nil b w)
  unfold snt at *
  go_enter Tryz.func52, Tryz.ntmps52
  go_wp2_with (first
    | (go_at_call 77; refine (C1.out _).mono ?_; rintro e w1 ⟨rfl, rfl⟩)
    | fail)
  go_ret
  exact ⟨rfl, rfl⟩

set_option maxRecDepth 100000 in
set_option maxHeartbeats 4000000 in
theorem number_ch (A : Snt) (k : Nat) (E : Value) (a : Addr) (w : World) (hA : Lds A w) (hch : Ch A k E a) (hk : k ≤ 8) :
    Calls Tryz.prog 52 #[E] w fun e w' => e = .returned (.int .i64 40) ∧ Below w.heap.size w w' := by
  have L1 := fun (W : World) (hb : Below w.heap.size w W) => hA.below hb (Nat.le_refl _)
  have C1 := Lib.hid (fun (b : Addr) (W : World) (hb : Below w.heap.size w W) (ho : OneOf A b) => eis_any A k E a b W (L1 W hb) hch hk ho)
  have G : ∀ W, Below w.heap.size w W → W.cell? ⟨2, 0, none⟩ = some (snt A.s) ∧ W.cell? ⟨3, 0, none⟩ = some (snt A.n) ∧ W.cell? ⟨4, 0, none⟩ = some (snt A.u) ∧ W.cell? ⟨1, 0, none⟩ = some (snt A.f) := fun W hb => ⟨(L1 W hb).cs, (L1 W hb).cn, (L1 W hb).cu, (L1 W hb).cf⟩
  have G0 := G w (Below.refl _ _)
  obtain ⟨g1, g2, g3, g4⟩ := G0
  have HG := Lib.hid G
  have ho := hch.one
  have HO := Lib.hid hA.ne
  clear G hA hch L1
  unfold snt at *
  go_enter Tryz.func52, Tryz.ntmps52
  go_wp2_with fail
  refine (C1.out A.s _ (Below.refl _ _) (.inl rfl)).mono ?_
  rintro e w1 ⟨rfl, hb1⟩
  have G1 := HG.out w1 hb1
  have HB1 := Lib.hid hb1
  clear hb1 g1 g2 g3 g4
  obtain ⟨g1, g2, g3, g4⟩ := G1
  by_cases a1 : a = A.s
  · rw [decide_eq_true a1]
    clear a1 ho
    go_wp2_with fail
    go_ret
    exact ⟨rfl, HB1.out⟩
  rw [decide_eq_false a1]
  go_wp2_with fail
  refine (C1.out A.n _ HB1.out (.inr (.inl rfl))).mono ?_
  rintro e w2 ⟨rfl, hb2⟩
  have hb2' := HB1.out.trans (hb2.mono HB1.out.size)
  have G1 := HG.out w2 hb2'
  have HB2 := Lib.hid hb2'
  clear hb2 hb2' g1 g2 g3 g4
  obtain ⟨g1, g2, g3, g4⟩ := G1
  by_cases a2 : a = A.n
  · rw [decide_eq_true a2]
    clear a1 a2 ho
    go_wp2_with fail
    go_ret
    exact ⟨rfl, HB2.out⟩
  rw [decide_eq_false a2]
  go_wp2_with fail
  refine (C1.out A.u _ HB2.out (.inr (.inr (.inl rfl)))).mono ?_
  rintro e w3 ⟨rfl, hb3⟩
  have hb3' := HB2.out.trans (hb3.mono HB2.out.size)
  have G1 := HG.out w3 hb3'
  have HB3 := Lib.hid hb3'
  clear hb3 hb3' g1 g2 g3 g4
  obtain ⟨g1, g2, g3, g4⟩ := G1
  by_cases a3 : a = A.u
  · rw [decide_eq_true a3]
    clear a1 a2 a3 ho
    go_wp2_with fail
    go_ret
    exact ⟨rfl, HB3.out⟩
  rw [decide_eq_false a3]
  have a4 : a = A.f := by
    rcases ho with h | h | h | h
    · exact absurd h a1
    · exact absurd h a2
    · exact absurd h a3
    · exact h
  go_wp2_with fail
  refine (C1.out A.f _ HB3.out (.inr (.inr (.inr rfl)))).mono ?_
  rintro e w4 ⟨rfl, hb4⟩
  have HB4 := Lib.hid (HB3.out.trans (hb4.mono HB3.out.size))
  clear hb4 g1 g2 g3 g4
  rw [decide_eq_true a4]
  clear a1 a2 a3 a4 ho
  go_wp2_with fail
  go_ret
  exact ⟨rfl, HB4.out⟩
theorem number_nilB (A : Snt) (w : World) (hA : Lds A w) :
    Calls Tryz.prog 52 #[.nilIface] w fun e w' => e = .returned (.int .i64 0) ∧ Below w.heap.size w w' :=
  (number_nil A w hA).mono (by rintro e w' ⟨rfl, rfl⟩; exact ⟨rfl, Below.refl _ _⟩)

theorem put4_cell_ {W : World} {g : Nat} {p : Addr} {u v0 v1 v2 v3 : Value} (h : W.cell? p = some u) (hg : ¬ g = p.block) : ((((W.setCell ⟨g, 0, none⟩ v0).setCell ⟨g, 1, none⟩ v1).setCell ⟨g, 2, none⟩ v2).setCell ⟨g, 3, none⟩ v3).cell? p = some u := by
  rw [World.cell?_setCell_far _ _ _ _ hg, World.cell?_setCell_far _ _ _ _ hg, World.cell?_setCell_far _ _ _ _ hg, World.cell?_setCell_far _ _ _ _ hg]
  exact h
end Go.Proofs.YtanbjifdcplmnaaGreatDoor
/- What checkIpn, check, Check and None of layer 4 return. -/
namespace Go.Proofs.YtanbjifdcplmnaaGreatDoor
open Go.RowKit

set_option maxRecDepth 100000 in
set_option maxHeartbeats 1000000 in
theorem checkipn_any (A : Snt) (s : ByteArray) (n v : Nat) (w : World) (hA : Lds A w) :
    Calls Tryz.prog 119 #[epdV 2 s n v] w (Why A (checkB (ep 2 s n v)) w) := by
  obtain ⟨R, hR⟩ : ∃ R, R = checkB (ep 2 s n v) := ⟨_, rfl⟩
  rw [← hR]
  have hR2 : R = (s.data.toList.isEmpty && (decide (0 < n) && (decide (n ≤ 4294967295) && decide (v ≤ 4294967295)))) := by rw [hR]; unfold checkB; rw [if_neg (show ¬ (ep 2 s n v).scheme = 1 by show ¬ (2 : Int) = 1; decide)]; rfl
  clear hR
  have hse := str_empty s
  unfold epdV
  have gu : (w.alloc (.cells #[.int .i64 2, .string s, .int .u64 (n : Int), .int .u64 (v : Int)] 46)).cell? ⟨4, 0, none⟩ = some (snt A.u) := (hA.alloc _).cu
  have gn : (w.alloc (.cells #[.int .i64 2, .string s, .int .u64 (n : Int), .int .u64 (v : Int)] 46)).cell? ⟨3, 0, none⟩ = some (snt A.n) := (hA.alloc _).cn
  clear hA
  unfold snt at gu gn
  have hN : (decide (0 < n) && (decide (n ≤ 4294967295) && decide (v ≤ 4294967295))) = (decide ¬ ((n : Int) = 0) && (decide ¬ (4294967295 < (n : Int)) && decide ¬ (4294967295 < (v : Int)))) := by
    rw [Bool.eq_iff_iff]; simp; omega
  rw [hN] at hR2
  clear hN
  generalize (n : Int) = N at *
  generalize (v : Int) = V at *
  cases he : s.data.toList.isEmpty with
  | false =>
    rw [he] at hse hR2
    have hr : R = false := hR2
    subst hr
    clear hR2 he
    go_enter Tryz.func119, Tryz.ntmps119
    go_wp2_with fail
    go_ret
    exact ⟨(Below.refl _ _).alloc (Nat.le_refl _) _, .inr ⟨rfl, A.n, .inr (.inl rfl), rfl⟩⟩
  | true =>
    rw [he] at hse hR2
    clear he
    by_cases h1 : N = 0
    · subst h1
      have hr : R = false := by rw [hR2]; simp
      subst hr
      clear hR2
      go_enter Tryz.func119, Tryz.ntmps119
      go_wp2_with fail
      go_ret
      exact ⟨(Below.refl _ _).alloc (Nat.le_refl _) _, .inr ⟨rfl, A.u, .inr (.inr (.inl rfl)), rfl⟩⟩
    by_cases h2 : 4294967295 < N
    · have hr : R = false := by rw [hR2]; simp; omega
      subst hr
      clear hR2
      go_enter Tryz.func119, Tryz.ntmps119
      go_wp2_with fail
      go_ret
      exact ⟨(Below.refl _ _).alloc (Nat.le_refl _) _, .inr ⟨rfl, A.u, .inr (.inr (.inl rfl)), rfl⟩⟩
    have h2' : N ≤ 4294967295 := by omega
    by_cases h3 : 4294967295 < V
    · have hr : R = false := by rw [hR2]; simp; omega
      subst hr
      clear hR2
      go_enter Tryz.func119, Tryz.ntmps119
      go_wp2_with fail
      go_ret
      exact ⟨(Below.refl _ _).alloc (Nat.le_refl _) _, .inr ⟨rfl, A.u, .inr (.inr (.inl rfl)), rfl⟩⟩
    have h3' : V ≤ 4294967295 := by omega
    have hr : R = true := by rw [hR2]; simp; omega
    subst hr
    clear hR2
    go_enter Tryz.func119, Tryz.ntmps119
    go_wp2_with fail
    go_ret
    exact ⟨(Below.refl _ _).alloc (Nat.le_refl _) _, .inl ⟨rfl, rfl⟩⟩

theorem Why.boxed {A : Snt} {b : Bool} {w : World} {o : Obj} {e : Ending} {w' : World} (h : Why A b (w.alloc o) e w') : Why A b w e w' :=
  ⟨((Below.refl _ _).alloc (Nat.le_refl _) o).trans (h.1.mono (le_alloc _ _)), h.2⟩

set_option maxRecDepth 100000 in
set_option maxHeartbeats 1000000 in
theorem echeck_any (A : Snt) (sc : Int) (s : ByteArray) (n v : Nat) (w : World) (hA : Lds A w) (hs : s.size ≤ 140737488355328) :
    Calls Tryz.prog 101 #[epdV sc s n v] w (Why A (checkB (ep sc s n v)) w) := by
  have gs : (w.alloc (.cells #[.int .i64 sc, .string s, .int .u64 (n : Int), .int .u64 (v : Int)] 46)).cell? ⟨2, 0, none⟩ = some (snt A.s) := (hA.alloc _).cs
  unfold snt at gs
  by_cases h1 : sc = 1
  · subst h1
    have C1 := Lib.hid (checkdtn_any A s n v (w.alloc (.cells #[.int .i64 1, .string s, .int .u64 (n : Int), .int .u64 (v : Int)] 46)) (hA.alloc _) hs)
    clear hA gs
    generalize checkB (ep 1 s n v) = R at *
    unfold epdV at *
    go_enter Tryz.func101, Tryz.ntmps101
    go_wp2_with fail
    refine C1.out.mono ?_
    intro e w1 hy
    have HY := Lib.hid hy.boxed
    obtain ⟨hb, ⟨hc, rfl⟩ | ⟨hc, a, ha, rfl⟩⟩ := hy
    · clear hb hc
      go_wp2_with fail
      go_ret
      exact HY.out
    · clear hb hc ha
      unfold snt at *
      go_wp2_with fail
      go_ret
      exact HY.out
  by_cases h2 : sc = 2
  · subst h2
    have C1 := Lib.hid (checkipn_any A s n v (w.alloc (.cells #[.int .i64 2, .string s, .int .u64 (n : Int), .int .u64 (v : Int)] 46)) (hA.alloc _))
    clear hA gs
    generalize checkB (ep 2 s n v) = R at *
    unfold epdV at *
    go_enter Tryz.func101, Tryz.ntmps101
    go_wp2_with fail
    refine C1.out.mono ?_
    intro e w1 hy
    have HY := Lib.hid hy.boxed
    obtain ⟨hb, ⟨hc, rfl⟩ | ⟨hc, a, ha, rfl⟩⟩ := hy
    · clear hb hc
      go_wp2_with fail
      go_ret
      exact HY.out
    · clear hb hc ha
      unfold snt at *
      go_wp2_with fail
      go_ret
      exact HY.out
  have hr : checkB (ep sc s n v) = false := by
    unfold checkB
    rw [if_neg (show ¬ (ep sc s n v).scheme = 1 from h1)]
    have : ((ep sc s n v).scheme == 2) = false := beq_eq_false_iff_ne.2 h2
    rw [this, Bool.false_and]
  rw [hr]
  clear hr
  unfold epdV at *
  go_enter Tryz.func101, Tryz.ntmps101
  go_wp2_with fail
  go_ret
  exact ⟨(Below.refl _ _).alloc (Nat.le_refl _) _, .inr ⟨rfl, A.s, .inl rfl, rfl⟩⟩

set_option maxRecDepth 100000 in
set_option maxHeartbeats 1000000 in
theorem none_any (sc : Int) (s : ByteArray) (n v : Nat) (w : World) :
    Calls Tryz.prog 120 #[epdV sc s n v] w fun e w' => e = .returned (.bool (noneB (ep sc s n v))) ∧ Below w.heap.size w w' := by
  obtain ⟨R, hR⟩ : ∃ R, R = noneB (ep sc s n v) := ⟨_, rfl⟩
  rw [← hR]
  have HR := Lib.hid hR
  clear hR
  unfold epdV
  go_enter Tryz.func120, Tryz.ntmps120
  go_wp2_with fail
  all_goals go_ret
  all_goals
    refine ⟨congrArg (fun b => Ending.returned (Value.bool b)) ((?_ : _ = _).trans HR.out.symm), (Below.refl _ _).alloc (Nat.le_refl _) _⟩
    unfold noneB ep
    simp [← Lib.toList_data, *]
end Go.Proofs.YtanbjifdcplmnaaGreatDoor
/- What ipnText, Text and Node of layer 4 return. -/
namespace Go.Proofs.YtanbjifdcplmnaaGreatDoor
open Go.RowKit
open Go.Lib (decDigits)

def strL (l : List UInt8) : ByteArray := ⟨l.toArray⟩
theorem strL_app (a b : List UInt8) : strL a ++ strL b = strL (a ++ b) := by
  apply ByteArray.ext
  unfold strL
  simp [ByteArray.data_append]
theorem strL_data (s : ByteArray) : strL s.data.toList = s := Lib.mk_data s
theorem strL_list (l : List UInt8) : (strL l).data.toList = l := by unfold strL; simp
theorem strL_size (l : List UInt8) : (strL l).size = l.length := by rw [Lib.size_eq, strL_list]
theorem nd20 (n : Nat) (h : n < 18446744073709551616) : (decDigits n).length ≤ 20 := by
  have key : ∀ (k n : Nat), n < 10 ^ (k + 1) → (decDigits n).length ≤ k + 1 := by
    intro k
    induction k with
    | zero => intro n hn; rw [dec_small (by omega)]; simp
    | succ k ih =>
      intro n hn
      by_cases h10 : n < 10
      · rw [dec_small h10]; simp
      · rw [dec_big h10, List.length_append]
        have := ih (n / 10) (by rw [Nat.div_lt_iff_lt_mul (by decide)]; rw [Nat.pow_succ] at hn; exact hn)
        simp only [List.length_singleton]
        omega
  exact key 19 n (Nat.lt_of_lt_of_le h (by decide))

/-- The four cells of a box of its own, behind what leaves them. -/
theorem box_cells4 {w w' : World} {c0 c1 c2 c3 : Value} {t : TypeId} (h : Below (w.alloc (.cells #[c0, c1, c2, c3] t)).heap.size (w.alloc (.cells #[c0, c1, c2, c3] t)) w') :
    w'.cell? ⟨w.heap.size, 0, none⟩ = some c0 ∧ w'.cell? ⟨w.heap.size, 1, none⟩ = some c1 ∧ w'.cell? ⟨w.heap.size, 2, none⟩ = some c2 ∧ w'.cell? ⟨w.heap.size, 3, none⟩ = some c3 := by
  refine ⟨?_, ?_, ?_, ?_⟩ <;> (rw [h.cell (by simp), World.cell?_alloc_at _ _ _ _ rfl]; rfl)
theorem ep_name (sc : Int) (s : ByteArray) (n v : Nat) : (ep sc s n v).name = s.data.toList := rfl

end Go.Proofs.YtanbjifdcplmnaaGreatDoor
/- What speltNumbers and spelt of layer 4 return: the one endpoint whose text this could be. -/
namespace Go.Proofs.YtanbjifdcplmnaaGreatDoor
open Go.RowKit
/-- An endpoint's cells, zeros of its own. -/
theorem zeroE {w W' : World} {g : Nat} (hg : g = w.heap.size) (h : Below (g + 1) (w.alloc (.cells #[.int .i64 0, .string ⟨#[]⟩, .int .u64 0, .int .u64 0] 46)) W') :
    (W'.cell? ⟨g, 0, none⟩ = some (.int .i64 0) ∧ W'.cell? ⟨g, 1, none⟩ = some (.string ⟨#[]⟩) ∧ W'.cell? ⟨g, 2, none⟩ = some (.int .u64 0) ∧ W'.cell? ⟨g, 3, none⟩ = some (.int .u64 0)) ∧
    (W'.frozen? ⟨g, 0, none⟩ = false ∧ W'.frozen? ⟨g, 1, none⟩ = false ∧ W'.frozen? ⟨g, 2, none⟩ = false ∧ W'.frozen? ⟨g, 3, none⟩ = false) := by
  subst hg
  exact ⟨box_cells4 (h.mono (by simp)), (h.frozen (p := ⟨w.heap.size, 0, none⟩) (Nat.lt_succ_self _)).trans (by simp), (h.frozen (p := ⟨w.heap.size, 1, none⟩) (Nat.lt_succ_self _)).trans (by simp), (h.frozen (p := ⟨w.heap.size, 2, none⟩) (Nat.lt_succ_self _)).trans (by simp), (h.frozen (p := ⟨w.heap.size, 3, none⟩) (Nat.lt_succ_self _)).trans (by simp)⟩

theorem below_put4 {B g : Nat} {w W' : World} {u0 u1 u2 u3 : Value} (h : Below B w W') (hg : B ≤ g) : Below B w ((((W'.setCell ⟨g, 0, none⟩ u0).setCell ⟨g, 1, none⟩ u1).setCell ⟨g, 2, none⟩ u2).setCell ⟨g, 3, none⟩ u3) :=
  (((h.setCell (p := ⟨g, 0, none⟩) hg _).setCell (p := ⟨g, 1, none⟩) hg _).setCell (p := ⟨g, 2, none⟩) hg _).setCell (p := ⟨g, 3, none⟩) hg _

end Go.Proofs.YtanbjifdcplmnaaGreatDoor
/- What spelt, parsed and Parse of layer 4 return. -/
namespace Go.Proofs.YtanbjifdcplmnaaGreatDoor
open Go.RowKit

theorem str_ne {s : ByteArray} {l : List UInt8} (h : s.data.toList ≠ l) : (s.toList == l) = false ∧ (l == s.toList) = false := by
  rw [Lib.toList_data]
  exact ⟨beq_eq_false_iff_ne.2 h, beq_eq_false_iff_ne.2 (fun e => h e.symm)⟩

end Go.Proofs.YtanbjifdcplmnaaGreatDoor
/- A block that comes in as an argument, opened. -/
namespace Go.Proofs.YtanbjifdcplmnaaGreatDoor
open Go.RowKit Go.ChangeShapes Go.WideShapes Go.ChangeAt

theorem cellsBlk : Tryz.prog.cellsOf 25 = 5 := by kernel_rfl
theorem cellsU64 : Tryz.prog.cellsOf 23 = 1 := by kernel_rfl
theorem cellsInt : Tryz.prog.cellsOf 3 = 1 := by kernel_rfl
theorem cellsBy : Tryz.prog.cellsOf 22 = 1 := by kernel_rfl
theorem arr5 {α : Type} {cs : Array α} (h : cs.size = 5) : ∃ c0 c1 c2 c3 c4, cs = #[c0, c1, c2, c3, c4] := by
  obtain ⟨l⟩ := cs
  match l, h with
  | [c0, c1, c2, c3, c4], _ => exact ⟨c0, c1, c2, c3, c4, rfl⟩
theorem wfU {n : Int} (h : (Lit.int .u64 n).wf = true) : 0 ≤ n ∧ n < 18446744073709551616 := by
  simp [Lit.wf, IntKind.min, IntKind.max, IntKind.signed, IntKind.bits] at h
  omega

/-- An argument that is a block. -/
def BlkIn (w : World) (b : Blk) (A : Option Addr) (nd cd : Nat) : Prop := Bd b ∧ (Lit.int .i64 b.crc).wf = true ∧ nd ≤ cd ∧ Rd w w.heap.size A nd b.dat

set_option maxRecDepth 100000 in
set_option maxHeartbeats 1000000 in
theorem open_blk {H : Type} {enc : TypeId × Value → H} {W : World} {r : Reach} {b0 : Nat} {v : Value} {d : DataW H} {p : List MemPlace} (hv : Value.okWide Tryz.prog W r b0 25 v) (h : DataW.Trod enc Tryz.prog W 0 (fun _ => true) true 25 v d p) :
    ∃ (b : Blk) (A : Option Addr) (nd cd : Nat), v = blkV b.typ b.num b.flg b.crc A nd cd ∧ BlkIn W b A nd cd := by
  obtain ⟨cs, rfl, hsz⟩ := okWide_struct Tryz.underlying25 hv
  obtain ⟨c0, c1, c2, c3, c4, rfl⟩ := arr5 (hsz.trans cellsBlk)
  clear hv hsz
  obtain ⟨fuel, hf⟩ := h
  obtain ⟨xs, n, _, -, hl, hlen, hfs⟩ := DataW.trod_struct Tryz.underlying25 hf
  clear hf hl
  obtain ⟨y0, y1, y2, y3, y4, rfl⟩ : ∃ y0 y1 y2 y3 y4, xs = [y0, y1, y2, y3, y4] := by
    match xs, hlen with
    | [y0, y1, y2, y3, y4], _ => exact ⟨y0, y1, y2, y3, y4, rfl⟩
  have k0 := hfs 0 _ rfl
  have k1 := hfs 1 _ rfl
  have k2 := hfs 2 _ rfl
  have k3 := hfs 3 _ rfl
  have k4 := hfs 4 _ rfl
  simp [Value.cells, cellsU64, cellsInt, cellsBy] at k0 k1 k2 k3 k4
  obtain ⟨a0, e0, rfl, w0⟩ := DataW.trod_int Tryz.underlying23 k0
  obtain ⟨a1, e1, rfl, w1⟩ := DataW.trod_int Tryz.underlying23 k1
  obtain ⟨a2, e2, rfl, w2⟩ := DataW.trod_int Tryz.underlying23 k2
  obtain ⟨a3, e3, rfl, w3⟩ := DataW.trod_int Tryz.underlying3 k3
  simp only [List.cons.injEq, and_true] at e0 e1 e2 e3
  subst e0 e1 e2 e3
  obtain ⟨g0, hg0, rfl⟩ : ∃ g : Nat, g < 18446744073709551616 ∧ a0 = (g : Int) := ⟨a0.toNat, by have h := wfU w0; omega, by have h := wfU w0; omega⟩
  obtain ⟨g1, hg1, rfl⟩ : ∃ g : Nat, g < 18446744073709551616 ∧ a1 = (g : Int) := ⟨a1.toNat, by have h := wfU w1; omega, by have h := wfU w1; omega⟩
  obtain ⟨g2, hg2, rfl⟩ : ∃ g : Nat, g < 18446744073709551616 ∧ a2 = (g : Int) := ⟨a2.toNat, by have h := wfU w2; omega, by have h := wfU w2; omega⟩
  rcases open_ints Tryz.underlying22 Tryz.underlying5 (by kernel_rfl) k4 with ⟨hcs, _⟩ | ⟨x, l, c, zs, hcs, _, hlc, hm, hz, hd, hcell, hwz⟩
  · simp only [List.cons.injEq, and_true] at hcs
    subst hcs
    exact ⟨⟨g0, g1, g2, a3, []⟩, none, 0, 0, rfl, ⟨hg0, hg1, hg2⟩, w3, Nat.le_refl _, Rd.nil_⟩
  · simp only [List.cons.injEq, and_true] at hcs
    subst hcs
    have hz' : zs.length = c := by simpa using hz
    exact ⟨⟨g0, g1, g2, a3, _⟩, some x, l, c, rfl, ⟨hg0, hg1, hg2⟩, w3, hlc, Rd.of_ints hlc hz' hcell hwz⟩
end Go.Proofs.YtanbjifdcplmnaaGreatDoor
/- Faults of layer 6, errors.Is over them, and numberOf. -/
namespace Go.Proofs.YtanbjifdcplmnaaGreatDoor
open Go.RowKit Go.Extern.Stop Go.Stop Go.Extern

/-- The numbers that are told as they are; all others as 60. -/
def numL : List Int := [30, 31, 32, 50, 51, 61, 62]
def numZ (z : Int) : Int := if numL.contains z then z else 60
theorem numL_get (i : Nat) (hi : i < 7) : i = 0 ∧ numL.getD i 0 = 30 ∨ i = 1 ∧ numL.getD i 0 = 31 ∨ i = 2 ∧ numL.getD i 0 = 32 ∨ i = 3 ∧ numL.getD i 0 = 50 ∨ i = 4 ∧ numL.getD i 0 = 51 ∨ i = 5 ∧ numL.getD i 0 = 61 ∨ i = 6 ∧ numL.getD i 0 = 62 := by
  match i, hi with
  | 0, _ => simp [numL]
  | 1, _ => simp [numL]
  | 2, _ => simp [numL]
  | 3, _ => simp [numL]
  | 4, _ => simp [numL]
  | 5, _ => simp [numL]
  | 6, _ => simp [numL]
theorem numZ_hit {z : Int} (i : Nat) (hi : i < 7) (h : z = numL.getD i 0) : numZ z = z := by
  rcases numL_get i hi with ⟨-, e⟩ | ⟨-, e⟩ | ⟨-, e⟩ | ⟨-, e⟩ | ⟨-, e⟩ | ⟨-, e⟩ | ⟨-, e⟩ <;> (rw [e] at h; subst h; rfl)
theorem numZ_no {z : Int} (h : ∀ j, j < 7 → z ≠ numL.getD j 0) : numZ z = 60 := by
  unfold numZ
  rw [if_neg]
  intro hc
  have := h 0 (by decide)
  have := h 1 (by decide)
  have := h 2 (by decide)
  have := h 3 (by decide)
  have := h 4 (by decide)
  have := h 5 (by decide)
  have := h 6 (by decide)
  simp [numL] at *
  omega

end Go.Proofs.YtanbjifdcplmnaaGreatDoor
/- What Dec of layer 1's reference returns. -/
namespace Go.Proofs.YtanbjifdcplmnaaGreatDoor
open Go.RowKit
open Go.Lib (decDigits)

theorem dig_cut (d : Nat) (hd : d < 10) (x y : Int) (hx : x = (d : Int)) (hy : y = (d : Int) + 1) (W : World) :
    (Instr.slice 9 (.string ⟨#[48, 49, 50, 51, 52, 53, 54, 55, 56, 57, 97, 98, 99, 100, 101, 102]⟩) (some (.int .u64 x)) (some (.int .u64 y)) none).run Tryz.prog W = .ok (.string ⟨#[UInt8.ofNat (48 + d)]⟩) W := by
  have ht := Tryz.underlying9
  subst hx hy
  match d, hd with
  | 0, _ => go_simp; try rfl
  | 1, _ => go_simp; try rfl
  | 2, _ => go_simp; try rfl
  | 3, _ => go_simp; try rfl
  | 4, _ => go_simp; try rfl
  | 5, _ => go_simp; try rfl
  | 6, _ => go_simp; try rfl
  | 7, _ => go_simp; try rfl
  | 8, _ => go_simp; try rfl
  | 9, _ => go_simp; try rfl
theorem strL_push (x : UInt8) (l : List UInt8) : (⟨#[x]⟩ : ByteArray) ++ strL l = strL (x :: l) := by
  unfold strL
  apply ByteArray.ext
  simp

end Go.Proofs.YtanbjifdcplmnaaGreatDoor
/- What layer 4's reference answers about endpoints: letter, slash, None, Check. -/
namespace Go.Proofs.YtanbjifdcplmnaaGreatDoor
open Go.RowKit

set_option maxRecDepth 100000 in
set_option maxHeartbeats 1000000 in
theorem rletter_n (X : Nat) (w : World) :
    Calls Tryz.prog 84 #[.int .u8 (X : Int)] w fun e w' => e = .returned (.bool ((decide (97 ≤ X) && decide (X ≤ 122)) || ((decide (48 ≤ X) && decide (X ≤ 57)) || (decide (X = 46) || (decide (X = 45) || decide (X = 95)))))) ∧ w = w' := by
  obtain ⟨R, hR⟩ : ∃ R, R = ((decide (97 ≤ X) && decide (X ≤ 122)) || ((decide (48 ≤ X) && decide (X ≤ 57)) || (decide (X = 46) || (decide (X = 45) || decide (X = 95))))) := ⟨_, rfl⟩
  rw [← hR]
  have HR := Lib.hid hR
  clear hR
  go_enter Tryz.func84, Tryz.ntmps84
  go_wp2
  all_goals go_ret
  all_goals
    refine ⟨congrArg (fun b => Ending.returned (Value.bool b)) ((?_ : _ = _).trans HR.out.symm), rfl⟩
    rw [Bool.eq_iff_iff]
    simp
    try omega
theorem rletter_any (x : UInt8) (w : World) :
    Calls Tryz.prog 84 #[.int .u8 (x.toNat : Int)] w fun e w' => e = .returned (.bool (letterB x)) ∧ w = w' := by
  rw [letter_num]
  exact rletter_n x.toNat w

theorem toSlash_cons (a : UInt8) (r : List UInt8) : toSlash (a :: r) = if a = 47 then 0 else toSlash r + 1 := by
  unfold toSlash
  by_cases h : a = 47
  · simp [List.takeWhile, h]
  · have : (a != 47) = true := by simpa using h
    simp [List.takeWhile, this, h]
theorem toSlash_ne : ∀ (r : List UInt8) (j : Nat) (hj : j < r.length), j < toSlash r → r[j]'hj ≠ 47
  | [], _, hj, _ => absurd hj (Nat.not_lt_zero _)
  | a :: r, 0, _, h => by
    rw [toSlash_cons] at h
    intro e
    rw [if_pos (by simpa using e)] at h
    exact absurd h (Nat.lt_irrefl _)
  | a :: r, j + 1, hj, h => by
    rw [toSlash_cons] at h
    have hj' : j < r.length := by simpa using hj
    split at h
    · exact absurd h (Nat.not_lt_zero _)
    · simpa using toSlash_ne r j hj' (by omega)
theorem toSlash_at : ∀ (r : List UInt8) (h : toSlash r < r.length), r[toSlash r]'h = 47
  | [], h => absurd h (Nat.not_lt_zero _)
  | a :: r, h => by
    have e := toSlash_cons a r
    by_cases ha : a = 47
    · rw [if_pos ha] at e
      simp only [e, List.getElem_cons_zero]
      exact ha
    · rw [if_neg ha] at e
      have h2 : toSlash r < r.length := by rw [e] at h; simpa using h
      simp only [e, List.getElem_cons_succ]
      exact toSlash_at r h2
theorem str_ix (s : ByteArray) (k : Nat) (hk : k < s.data.toList.length) (W : World) : (Instr.index 9 (.string s) (.int .i64 (k : Int))).run Tryz.prog W = .ok (.int .u8 ((s.data.toList[k]'hk).toNat)) W := by
  have hlt : k < s.size := by rw [Lib.size_eq]; exact hk
  obtain ⟨x, hx⟩ : ∃ x, x = s.data.toList[k]'hk := ⟨_, rfl⟩
  rw [← hx]
  rw [hx]
  go_simp
  rfl
/-- Where a name's third slash stands; -1: it may not be. -/
def slashI (l : List UInt8) : Int := if nameB l = true then (third l : Int) else -1
theorem slash_no {l : List UInt8} (h : nameB l = false) : slashI l = -1 := by unfold slashI; rw [h]; rfl
theorem nameB_47 (r : List UInt8) : nameB (47 :: 47 :: r) = (decide (r.length + 2 ≤ 64) && (r.all lsB && (decide (1 ≤ toSlash r) && decide (toSlash r < r.length)))) := by
  unfold nameB
  simp
theorem lsB_47 : lsB 47 = true := by decide
theorem lsB_letter {x : UInt8} (h : x ≠ 47) : lsB x = letterB x := by
  unfold lsB
  rw [beq_eq_false_iff_ne.2 h, Bool.false_or]

set_option maxRecDepth 100000 in
set_option maxHeartbeats 4000000 in
theorem rslash_any (s : ByteArray) (w : World) (hs : s.size ≤ 140737488355328) :
    Calls Tryz.prog 60 #[.string s] w fun e w' => e = .returned (.int .i64 (slashI s.data.toList)) ∧ w = w' := by
  have hsz : s.size = s.data.toList.length := Lib.size_eq s
  obtain ⟨L, hL⟩ : ∃ L, L = s.data.toList := ⟨_, rfl⟩
  by_cases h4 : s.size < 4
  · have e1 : (s.size : Int) < 4 := by omega
    have hn := Lib.hid (slash_no (l := s.data.toList) (by
      cases hb : nameB s.data.toList with
      | false => rfl
      | true =>
        obtain ⟨r, hr, -, h1, h2, -⟩ := name_head hb
        rw [hr] at hsz
        simp at hsz
        omega))
    clear hL hsz
    go_enter Tryz.func60, Tryz.ntmps60
    go_wp2_with fail
    go_ret
    exact ⟨(show Ending.returned _ = Ending.returned _ by rw [hn.out]; rfl), rfl⟩
  by_cases h64 : 64 < s.size
  · have e0 : ¬ (s.size : Int) < 4 := by omega
    have e1 : (64 : Int) < (s.size : Int) := by omega
    have e2 : decide ((64 : Int) < (s.size : Int)) = true := decide_eq_true e1
    have hn := Lib.hid (slash_no (l := s.data.toList) (by
      cases hb : nameB s.data.toList with
      | false => rfl
      | true =>
        obtain ⟨r, hr, -, -, -, h5⟩ := name_head hb
        omega))
    clear hL hsz
    go_enter Tryz.func60, Tryz.ntmps60
    go_wp2_with fail
    go_ret
    exact ⟨(show Ending.returned _ = Ending.returned _ by rw [hn.out]; rfl), rfl⟩
  have e0 : ¬ (s.size : Int) < 4 := by omega
  have e1 : ¬ (64 : Int) < (s.size : Int) := by omega
  have e2 : decide ((64 : Int) < (s.size : Int)) = false := decide_eq_false e1
  have hix : ∀ (k : Nat) (hk : k < s.data.toList.length) (W : World), (Instr.index 9 (.string s) (.int .i64 (k : Int))).run Tryz.prog W = .ok (.int .u8 ((s.data.toList[k]'hk).toNat)) W := by
    exact fun k hk W => str_ix s k hk W
  have HIX := Lib.hid hix
  have i0 : ∀ W, (Instr.index 9 (.string s) (.int .i64 0)).run Tryz.prog W = _ := fun W => hix 0 (by omega) W
  have i1 : ∀ W, (Instr.index 9 (.string s) (.int .i64 1)).run Tryz.prog W = _ := fun W => hix 1 (by omega) W
  clear hix
  have hl4 : 4 ≤ s.data.toList.length := by omega
  have hl64 : s.data.toList.length ≤ 64 := by omega
  generalize ha : s.data.toList[0]'(by omega) = a at *
  generalize hb : s.data.toList[1]'(by omega) = b at *
  obtain ⟨r, hr⟩ : ∃ r, s.data.toList = a :: b :: r := by
    match hm : s.data.toList, hl4 with
    | a' :: b' :: r, _ =>
      simp only [hm, List.getElem_cons_zero, List.getElem_cons_succ] at ha hb
      exact ⟨r, by rw [← ha, ← hb]⟩
  have h47 : ∀ x : UInt8, ((x.toNat : Int) != 47) = decide (x ≠ 47) := fun x => by
    rw [Bool.eq_iff_iff]
    simp
    constructor
    · intro h e; subst e; exact h rfl
    · intro h e; exact h (UInt8.toNat_inj.1 (by simpa using (show x.toNat = 47 by omega)))
  by_cases ha47 : a = 47
  case neg =>
    have t1 : ((a.toNat : Int) != 47) = true := by rw [h47]; simpa using ha47
    have hn := Lib.hid (slash_no (l := s.data.toList) (by
      cases hb : nameB s.data.toList with
      | false => rfl
      | true =>
        obtain ⟨r', hr', -⟩ := name_head hb
        rw [hr] at hr'
        injection hr' with h1 _
        exact absurd h1 ha47))
    clear hL hsz ha hb hr h47 HIX ha47 hl4 hl64
    go_enter Tryz.func60, Tryz.ntmps60
    go_wp2_with fail
    go_ret
    exact ⟨(show Ending.returned _ = Ending.returned _ by rw [hn.out]; rfl), rfl⟩
  subst ha47
  by_cases hb47 : b = 47
  case neg =>
    have t1 : ((b.toNat : Int) != 47) = true := by rw [h47]; simpa using hb47
    have hn := Lib.hid (slash_no (l := s.data.toList) (by
      cases hb : nameB s.data.toList with
      | false => rfl
      | true =>
        obtain ⟨r', hr', -⟩ := name_head hb
        rw [hr] at hr'
        injection hr' with _ h1
        injection h1 with h1 _
        exact absurd h1 hb47))
    clear hL hsz ha hb hr h47 HIX hb47 hl4 hl64
    go_enter Tryz.func60, Tryz.ntmps60
    go_wp2_with fail
    go_ret
    exact ⟨(show Ending.returned _ = Ending.returned _ by rw [hn.out]; rfl), rfl⟩
  subst hb47
  have HSZ : Hid (s.size = r.length + 2) := by show _ = _; rw [hsz, hr]; rfl
  have HNM : Hid (nameB s.data.toList = (r.all lsB && (decide (1 ≤ toSlash r) && decide (toSlash r < r.length)))) := by
    show _ = _
    rw [hr, nameB_47, decide_eq_true (by have := HSZ.out; omega), Bool.true_and]
  have HTH : Hid (third s.data.toList = 2 + toSlash r) := by show _ = _; rw [hr]; rfl
  have HXR : Hid (∀ (j : Nat) (hj : j < r.length) (W : World), (Instr.index 9 (.string s) (.int .i64 ((j + 2 : Nat) : Int))).run Tryz.prog W = .ok (.int .u8 ((r[j]'hj).toNat)) W) := fun j hj W => by
    have h1 : j + 2 < s.data.toList.length := by rw [hr]; simpa using hj
    rw [HIX.out (j + 2) h1 W]
    simp only [hr, List.getElem_cons_succ]
  have NE := Lib.hid (toSlash_ne r)
  have AT := Lib.hid (toSlash_at r)
  obtain ⟨R, hR⟩ : ∃ R, R = slashI s.data.toList := ⟨_, rfl⟩
  rw [← hR]
  have HR := Lib.hid hR
  have H47 := Lib.hid h47
  clear hL hsz ha hb hr h47 HIX hl4 hl64 hR h4 h64
  go_enter Tryz.func60, Tryz.ntmps60
  go_wp2_with fail
  clear i0 i1 e0 e1 e2
  go_loop [3, 4] (fun t i => ∃ (k I : Nat) (tv : Int), k ≤ r.length ∧ Hid (I = k + 2) ∧ i = .int .i64 (I : Int) ∧ t = .int .i64 tv ∧ Hid (tv = if toSlash r < k then ((2 + toSlash r : Nat) : Int) else -1) ∧ Hid ((r.take k).all lsB = true)) (fun _ i => s.size - (intOf i).toNat)
  case atStart => exact ⟨0, 2, -1, Nat.zero_le _, rfl, rfl, rfl, by show _ = _; rw [if_neg (Nat.not_lt_zero _)], by show _ = _; simp⟩
  case round =>
    obtain ⟨k, I, tv, hk, hI, rfl, rfl, htv, hall⟩ := hrel
    by_cases hlt : k < r.length
    · obtain ⟨x, hx⟩ : ∃ x, x = r[k]'hlt := ⟨_, rfl⟩
      have hix : ∀ W, (Instr.index 9 (.string s) (.int .i64 (I : Int))).run Tryz.prog W = .ok (.int .u8 (x.toNat : Int)) W := fun W => by
        have := HXR.out k hlt W
        rw [← hI.out, ← hx] at this
        exact this
      have hkk : (I : Int) < (s.size : Int) := by have := HSZ.out; have := hI.out; omega
      have hkd : decide ((I : Int) < (s.size : Int)) = true := decide_eq_true hkk
      have C1 := Lib.hid (rletter_any x w)
      have hne := H47.out x
      have HLT := Lib.hid hlt
      have HXK : Hid (r.getD k 0 = x) := by show _ = _; rw [hx]; simp [List.getD, hlt]
      have hstep : (r.take (k + 1)).all lsB = lsB x := by
        rw [List.take_succ_eq_append_getElem hlt, List.all_append, hall.out, Bool.true_and, ← hx]
        simp
      have HST := Lib.hid hstep
      have heq : ((x.toNat : Int) == 47) = !decide (x ≠ 47) := by rw [← hne]; simp [bne]
      have HX := Lib.hid hx
      clear hstep hx
      by_cases hx47 : x = 47
      · have hlx : lsB x = true := by rw [hx47]; exact lsB_47
        have HLX : Hid ((r.take (k + 1)).all lsB = true) := by show _ = _; rw [HST.out]; exact hlx
        rw [decide_eq_false (by simpa using hx47)] at hne heq
        simp only [Bool.not_false] at heq
        have HX47 : Hid (r[k]'hlt = 47) := HX.out.symm.trans hx47
        by_cases hT : toSlash r < k
        · have ht : tv = ((2 + toSlash r : Nat) : Int) := by rw [htv.out, if_pos hT]
          have t0 : ¬ tv < 0 := by omega
          have t0d : decide (tv < 0) = false := decide_eq_false t0
          have HT2 : Hid (tv = if toSlash r < k + 1 then ((2 + toSlash r : Nat) : Int) else -1) := by show _ = _; rw [if_pos (by omega)]; exact ht
          clear ht hT hlx hx47 HX47 HX
          go_wp2_with fail
          go_round
          case rel => exact ⟨k + 1, I + 1, tv, by have := HLT.out; omega, by show _ = _; have := hI.out; omega, by go_num, rfl, HT2, HLX.out⟩
          case measure => simp [intOf]; omega
        · have ht : tv = -1 := by rw [htv.out, if_neg hT]
          subst ht
          have hTk : toSlash r = k := by
            rcases Nat.lt_or_ge k (toSlash r) with h | h
            · exact absurd HX47.out (NE.out k hlt h)
            · omega
          have HT2 : Hid ((I : Int) = if toSlash r < k + 1 then ((2 + toSlash r : Nat) : Int) else -1) := by show _ = _; rw [if_pos (by omega)]; have := hI.out; omega
          clear hT hlx hx47 HX47 HX hTk htv
          go_wp2_with fail
          go_round
          case rel => exact ⟨k + 1, I + 1, (I : Int), by have := HLT.out; omega, by show _ = _; have := hI.out; omega, by go_num, rfl, HT2, HLX.out⟩
          case measure => simp [intOf]; omega
      · have hne2 : decide (x ≠ 47) = true := by simpa using hx47
        rw [hne2] at hne heq
        simp only [Bool.not_true] at heq
        have hls := lsB_letter hx47
        rw [hls] at HST
        have HX47 : Hid (r[k]'hlt ≠ 47) := by show _ ≠ _; rw [← HX.out]; exact hx47
        clear hne2 hls hx47 HX
        cases hlx : letterB x with
        | true =>
          rw [hlx] at C1 HST
          have HT2 : Hid (tv = if toSlash r < k + 1 then ((2 + toSlash r : Nat) : Int) else -1) := by
            show _ = _
            rw [htv.out]
            by_cases hT : toSlash r < k
            · rw [if_pos hT, if_pos (by omega)]
            · rw [if_neg hT, if_neg (fun h => by
                have hTk : toSlash r = k := by omega
                have := AT.out (by rw [hTk]; exact hlt)
                simp only [hTk] at this
                exact HX47.out this)]
          clear hlx HX47 htv
          go_wp2_with fail
          refine C1.out.mono ?_
          rintro e w' ⟨rfl, rfl⟩
          go_wp2_with fail
          go_round
          case rel => exact ⟨k + 1, I + 1, tv, by have := HLT.out; omega, by show _ = _; have := hI.out; omega, by go_num, rfl, HT2, HST.out⟩
          case measure => simp [intOf]; omega
        | false =>
          rw [hlx] at C1 HST
          have hf : R = -1 := by
            rw [HR.out]
            refine slash_no ?_
            rw [HNM.out, ← List.take_append_drop (k + 1) r, List.all_append, HST.out]
            simp
          subst hf
          clear hlx HX47 htv
          go_wp2_with fail
          refine C1.out.mono ?_
          rintro e w' ⟨rfl, rfl⟩
          go_wp2_with fail
          go_ret
          exact ⟨rfl, rfl⟩
    · obtain rfl : k = r.length := by omega
      have hkk : ¬ (I : Int) < (s.size : Int) := by have := HSZ.out; have := hI.out; omega
      have hkd : decide ((I : Int) < (s.size : Int)) = false := decide_eq_false hkk
      have hal := hall.out
      rw [List.take_length] at hal
      have hnm := HNM.out
      rw [hal, Bool.true_and] at hnm
      have hrr := HR.out
      unfold slashI at hrr
      rw [hnm, HTH.out] at hrr
      by_cases h3 : tv < 3
      · have hR1 : R = -1 := by
          rw [hrr, if_neg]
          intro h
          simp only [Bool.and_eq_true, decide_eq_true_eq] at h
          have := htv.out
          rw [if_pos h.2] at this
          omega
        subst hR1
        clear hal hnm hrr
        go_wp2_with fail
        go_ret
        exact ⟨rfl, rfl⟩
      · have hR1 : R = tv := by
          have := htv.out
          by_cases hT : toSlash r < r.length
          · rw [if_pos hT] at this
            rw [hrr, if_pos (by simp only [Bool.and_eq_true, decide_eq_true_eq]; omega), this]
          · rw [if_neg hT] at this
            omega
        subst hR1
        clear hal hnm hrr
        go_wp2_with fail
        go_ret
        exact ⟨rfl, rfl⟩
end Go.Proofs.YtanbjifdcplmnaaGreatDoor
/- What layer 4's reference answers about endpoints: None, Check. -/
namespace Go.Proofs.YtanbjifdcplmnaaGreatDoor
open Go.RowKit

theorem slash_pos (l : List UInt8) : decide ((0 : Int) < slashI l) = nameB l := by
  unfold slashI
  cases nameB l with
  | true => rw [if_pos rfl]; unfold third; simp; omega
  | false => rw [if_neg (by decide)]; decide

set_option maxRecDepth 100000 in
set_option maxHeartbeats 4000000 in
theorem rcheckE_any (sc : Int) (s : ByteArray) (n v : Nat) (w : World) (hs : s.size ≤ 140737488355328) :
    Calls Tryz.prog 41 #[epdV sc s n v] w fun e w' => e = .returned (.bool (checkB (ep sc s n v))) ∧ Below w.heap.size w w' := by
  have hbe : s.toList.isEmpty = s.data.toList.isEmpty := by rw [Lib.toList_data]
  obtain ⟨R, hR⟩ : ∃ R, R = checkB (ep sc s n v) := ⟨_, rfl⟩
  rw [← hR]
  have hR2 : R = if sc = 1 then (n == 0 && v == 0) && (s.data.toList.isEmpty || nameB s.data.toList) else sc == 2 && (s.data.toList.isEmpty && (decide (0 < n) && (decide (n ≤ 4294967295) && decide (v ≤ 4294967295)))) := hR
  clear hR
  have CS := Lib.hid (fun W => rslash_any s W hs)
  have SP := slash_pos s.data.toList
  generalize slashI s.data.toList = z at *
  generalize nameB s.data.toList = nb at *
  generalize s.data.toList.isEmpty = be at *
  have HR := Lib.hid hR2
  clear hR2 hs
  unfold epdV
  by_cases h1 : sc = 1
  · subst h1
    by_cases hn : n = 0
    · subst hn
      by_cases hv : v = 0
      · subst hv
        cases be with
        | true =>
          go_enter Tryz.func41, Tryz.ntmps41
          go_wp2_with fail
          go_ret
          exact ⟨congrArg (fun b => Ending.returned (Value.bool b)) ((by simp : true = _).trans HR.out.symm), (Below.refl _ _).alloc (Nat.le_refl _) _⟩
        | false =>
          go_enter Tryz.func41, Tryz.ntmps41
          go_wp2_with fail
          refine (CS.out _).mono ?_
          rintro e w' ⟨rfl, rfl⟩
          cases nb with
          | true =>
            have z0 : (0 : Int) < z := by simpa using SP
            go_wp2_with fail
            go_ret
            exact ⟨congrArg (fun b => Ending.returned (Value.bool b)) ((by simp : true = _).trans HR.out.symm), (Below.refl _ _).alloc (Nat.le_refl _) _⟩
          | false =>
            have z0 : ¬ (0 : Int) < z := by simpa using SP
            go_wp2_with fail
            go_ret
            exact ⟨congrArg (fun b => Ending.returned (Value.bool b)) ((by simp : false = _).trans HR.out.symm), (Below.refl _ _).alloc (Nat.le_refl _) _⟩
      · have e1 : ((v : Int) == 0) = false := by simp; omega
        go_enter Tryz.func41, Tryz.ntmps41
        go_wp2_with fail
        go_ret
        exact ⟨congrArg (fun b => Ending.returned (Value.bool b)) ((by simp [hv] : false = _).trans HR.out.symm), (Below.refl _ _).alloc (Nat.le_refl _) _⟩
    · have e1 : ((n : Int) == 0) = false := by simp; omega
      go_enter Tryz.func41, Tryz.ntmps41
      go_wp2_with fail
      go_ret
      exact ⟨congrArg (fun b => Ending.returned (Value.bool b)) ((by simp [hn] : false = _).trans HR.out.symm), (Below.refl _ _).alloc (Nat.le_refl _) _⟩
  · have e1 : (sc == 1) = false := by simpa using h1
    have HR2 : Hid (R = (sc == 2 && (be && (decide (0 < n) && (decide (n ≤ 4294967295) && decide (v ≤ 4294967295)))))) := by show _ = _; rw [HR.out, if_neg h1]
    clear HR h1 SP
    cases be with
    | true =>
      go_enter Tryz.func41, Tryz.ntmps41
      go_wp2
      all_goals go_ret
      all_goals
        refine ⟨congrArg (fun b => Ending.returned (Value.bool b)) ((?_ : _ = _).trans HR2.out.symm), (Below.refl _ _).alloc (Nat.le_refl _) _⟩
        rw [Bool.eq_iff_iff]
        simp
        try omega
    | false =>
      go_enter Tryz.func41, Tryz.ntmps41
      go_wp2
      all_goals go_ret
      all_goals
        refine ⟨congrArg (fun b => Ending.returned (Value.bool b)) ((?_ : _ = _).trans HR2.out.symm), (Below.refl _ _).alloc (Nat.le_refl _) _⟩
        rw [Bool.eq_iff_iff]
        simp
end Go.Proofs.YtanbjifdcplmnaaGreatDoor
/- What Text of layer 4's reference returns. (Made by gen/RfG.py.) -/
namespace Go.Proofs.YtanbjifdcplmnaaGreatDoor
open Go.RowKit
open Go.Lib (decDigits)

end Go.Proofs.YtanbjifdcplmnaaGreatDoor
/- Text of the reference of layer 3. -/
namespace Go.Proofs.YtanbjifdcplmnaaGreatDoor
open Go.RowKit

set_option maxRecDepth 100000 in
set_option maxHeartbeats 1000000 in
theorem rtext_any (s : ByteArray) (w : World) (hs : s.size ≤ 140737488355328) :
    Calls Tryz.prog 42 #[.string s] w (GivesI (.mk 3 0 s.data.toList []) w) := by
  obtain ⟨c, W', hrun, hrd, hc, hb, hz⟩ := conv_bytes (w.alloc (.cells #[.int .i64 0, .int .u64 0, .slice none 0 0, .slice none 0 0] 37)) s
  have hz1 : (w.alloc (.cells #[.int .i64 0, .int .u64 0, .slice none 0 0, .slice none 0 0] 37)).heap.size = w.heap.size + 1 := by simp
  rw [hz1] at hrun hrd hb hz
  obtain ⟨⟨z0, z1, z2, z3⟩, f0, f1, f2, f3⟩ := zero_cells hb
  have HRD := Lib.hid hrd
  have HB := Lib.hid hb
  have HZ := Lib.hid hz
  have HS := Lib.hid hs
  clear hrd hb hz hz1 hs
  go_enter Tryz.func42, Tryz.ntmps42
  go_wp2_with fail
  have hsz4 : ((((W'.setCell ⟨w.heap.size, 0, none⟩ (.int .i64 3)).setCell ⟨w.heap.size, 1, none⟩ (.int .u64 0)).setCell ⟨w.heap.size, 2, none⟩ (.slice (some ⟨w.heap.size + 1, 0, none⟩) s.size c)).setCell ⟨w.heap.size, 3, none⟩ (.slice none 0 0)).heap.size = W'.heap.size := by simp [World.setCell]
  refine bodyPost_ret (v := .agg #[.int .i64 3, .int .u64 0, .slice (some ⟨w.heap.size + 1, 0, none⟩) s.size c, .slice none 0 0]) (by simp [results, Tryz.results42, go_sem, z0, z1, z2, z3]) rfl ⟨_, rfl, RdI.mk_data (by decide) hc HS.out ?_, ?_⟩
  · rw [hsz4, HZ.out]
    exact HRD.out.set4 (fun _ b o h => (by cases h; omega))
  · exact below_set4 (((Below.refl _ _).alloc (Nat.le_refl _) _).trans (HB.out.mono (Nat.le_succ _))) (Nat.le_refl _)

end Go.Proofs.YtanbjifdcplmnaaGreatDoor
