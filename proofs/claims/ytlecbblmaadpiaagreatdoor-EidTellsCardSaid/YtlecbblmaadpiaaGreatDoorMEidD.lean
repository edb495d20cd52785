/- The plain mathematics of layer 4: names in pieces, nodes' texts. No program's number stands here. -/
import Derived.Test.YtlecbblmaadpiaaGreatDoorMCborM
import Derived.Test.YtlecbblmaadpiaaGreatDoorMEidM
import Derived.Test.YtlecbblmaadpiaaGreatDoorMKWrite
import Derived.Test.YtlecbblmaadpiaaGreatDoorMMask
import Derived.Test.YtlecbblmaadpiaaGreatDoorRows
import Derived.Below
import Derived.BigCall
import Derived.BigGuard
import Derived.BigGuardPart
import Derived.BigQuiet
import Derived.Deep.DeepCutAuto
import Derived.Deep.DeepFit
import Derived.Deep.Draws
import Derived.Deep.OwnRows
import Derived.Deep.QuietTactic
import Derived.Laws.AppendOwn
import Derived.Laws.BitsAllLaws
import Derived.Laws.BytesArg
import Derived.Laws.IdiomStrings
import Derived.Laws.NewBlocks
import Derived.Laws.Strings3
import Derived.Lib.EndianBits
import Derived.Lib.HexFns
import Derived.Lib.Hide
import Derived.Lib.ItoaNum
import Derived.Lib.SlBytesConst
import Derived.Lib.Strings
import Derived.Lib.Walk
import Derived.Outline
import Derived.WalkKit
import Derived.WalkLawsBesides
namespace Go.Proofs.YtlecbblmaadpiaaGreatDoor
open Go.Lib (decDigits)
theorem toSlash_app : ∀ (u t : List UInt8), (∀ c ∈ u, c ≠ 47) → toSlash (u ++ 47 :: t) = u.length
  | [], t, _ => by simp [toSlash]
  | x :: u, t, h => by
    have hx : (x != 47) = true := by rw [bne_iff_ne]; exact h x (by simp)
    have := toSlash_app u t (fun c hc => h c (by simp [hc]))
    unfold toSlash at this ⊢
    rw [List.cons_append, List.takeWhile_cons, if_pos hx, List.length_cons, this, List.length_cons]
theorem letter_no_slash {c : UInt8} (h : letterB c = true) : c ≠ 47 := by
  intro e
  subst e
  revert h
  decide
def Pieces (s u t : List UInt8) : Prop := s = 47 :: 47 :: (u ++ 47 :: t) ∧ u ≠ [] ∧ (∀ c ∈ u, letterB c = true) ∧ t.all lsB = true ∧ s.length ≤ 64
theorem split_slash : ∀ r : List UInt8, toSlash r < r.length → ∃ u t, r = u ++ 47 :: t ∧ u.length = toSlash r ∧ ∀ c ∈ u, c ≠ 47
  | [], h => by simp at h
  | x :: r, h => by
    by_cases hx : x = 47
    · subst hx
      exact ⟨[], r, rfl, by simp [toSlash], fun c hc => (by cases hc)⟩
    · have hb : (x != 47) = true := by rw [bne_iff_ne]; exact hx
      have e : toSlash (x :: r) = toSlash r + 1 := by unfold toSlash; rw [List.takeWhile_cons, if_pos hb, List.length_cons]
      rw [e, List.length_cons] at h
      obtain ⟨u, t, h1, h2, h3⟩ := split_slash r (by omega)
      refine ⟨x :: u, t, by rw [h1]; rfl, by rw [List.length_cons, h2, e], fun c hc => ?_⟩
      simp only [List.mem_cons] at hc
      rcases hc with rfl | hc
      · exact hx
      · exact h3 c hc
theorem name_pieces {s : List UInt8} (h : nameB s = true) : ∃ u t, Pieces s u t := by
  obtain ⟨r, rfl, h2, h3, h4, h5⟩ := name_head h
  obtain ⟨u, t, rfl, hu, hn⟩ := split_slash r h4
  rw [List.all_append, List.all_cons, Bool.and_eq_true, Bool.and_eq_true] at h2
  refine ⟨u, t, rfl, ?_, fun c hc => ?_, h2.2.2, h5⟩
  · intro e
    have h0 : u.length = 0 := by rw [e]; rfl
    omega
  · have hl := List.all_eq_true.1 h2.1 c hc
    unfold lsB at hl
    rw [Bool.or_eq_true, beq_iff_eq] at hl
    exact hl.resolve_left (hn c hc)
theorem pieces_name {s u t : List UInt8} (h : Pieces s u t) : nameB s = true ∧ third s = 2 + u.length := by
  obtain ⟨rfl, h1, h2, h3, h4⟩ := h
  have hs : toSlash (u ++ 47 :: t) = u.length := toSlash_app u t (fun c hc => letter_no_slash (h2 c hc))
  have hp : 1 ≤ u.length := by
    cases u with
    | nil => exact absurd rfl h1
    | cons _ _ => simp
  refine ⟨?_, by unfold third; rw [List.drop_succ_cons, List.drop_succ_cons, List.drop_zero, hs]⟩
  unfold nameB
  simp only [Bool.and_eq_true, decide_eq_true_eq, hs, List.all_append, List.all_cons, h3]
  refine ⟨h4, ⟨by decide, by decide⟩, ⟨List.all_eq_true.2 fun c hc => ?_, by decide, by first | rfl | trivial⟩, hp, by simp⟩
  unfold lsB
  rw [h2 c hc, Bool.or_true]
theorem pieces_take {s u t : List UInt8} (h : Pieces s u t) : s.take (third s + 1) = 47 :: 47 :: (u ++ [47]) := by
  rw [(pieces_name h).2, h.1, show 2 + u.length + 1 = (u.length + 1) + 2 by omega, List.take_succ_cons, List.take_succ_cons]
  have : (u ++ 47 :: t).take (u.length + 1) = u ++ [47] := by
    rw [List.take_append, List.take_of_length_le (by omega), show u.length + 1 - u.length = 1 by omega]
    rfl
  rw [this]
theorem node_dtn {e : Epd} (h : checkB e = true) (h1 : e.scheme = 1) (hn : e.name ≠ []) : nodeE e = dtnL ++ e.name.take (third e.name + 1) := by
  unfold nodeE
  have hno : noneB e = false := by
    unfold noneB
    rw [show e.name.isEmpty = false by cases hh : e.name with | nil => exact absurd hh hn | cons _ _ => rfl]
    simp
  rw [if_neg (by rw [h, hno]; decide), if_neg (by omega)]
theorem dtn_all {e : Epd} (h : checkB e = true) (h1 : e.scheme = 1) (hn : e.name ≠ []) : ∃ u t, Pieces e.name u t ∧ textE e = dtnL ++ 47 :: 47 :: (u ++ 47 :: t) ∧ nodeE e = dtnL ++ 47 :: 47 :: (u ++ [47]) := by
  obtain ⟨u, t, hp⟩ := name_pieces ((check_dtn h h1).2.2.resolve_left hn)
  exact ⟨u, t, hp, by rw [textE_dtn h h1 hn, hp.1], by rw [node_dtn h h1 hn, pieces_take hp]⟩
theorem nodeE_ipn {e : Epd} (h : checkB e = true) (h2 : e.scheme = 2) : nodeE e = ipnL ++ (decDigits e.node ++ [46, 48]) := by
  unfold nodeE
  have hno : noneB e = false := by unfold noneB; rw [show (e.scheme == 1) = false by rw [h2]; decide]; rfl
  rw [if_neg (by rw [h, hno]; decide), if_pos h2]
end Go.Proofs.YtlecbblmaadpiaaGreatDoor
/- Chosen by shake.py of the texts of the layers below: what dec_any need. -/
section
namespace Go.Proofs.YtlecbblmaadpiaaGreatDoor
open Go.RowKit
def decRow (f : Nat) (suf : List UInt8) : Nat → Value := fun j => if f ≤ j then .int .u8 ((suf.getD (j - f) 0).toNat : Int) else .int .u8 0
theorem dig10 (d : Nat) (h : d < 16) (h10 : d < 10) : Value.int .u8 (((⟨#[48, 49, 50, 51, 52, 53, 54, 55, 56, 57, 97, 98, 99, 100, 101, 102]⟩ : ByteArray)[d]'h).toNat : Int) = .int .u8 ((UInt8.ofNat (48 + d)).toNat : Int) := by
  have : ∀ d : Fin 10, (⟨#[48, 49, 50, 51, 52, 53, 54, 55, 56, 57, 97, 98, 99, 100, 101, 102]⟩ : ByteArray)[d.val]'(Nat.lt_of_lt_of_le d.isLt (by decide)) = UInt8.ofNat (48 + d.val) := by decide +kernel
  rw [this ⟨d, h10⟩]
theorem decRow_step (a f : Nat) (suf : List UInt8) (j : Nat) (hf : 1 ≤ f) (_hs : f ≤ 20) (_hj : j < 20) {h : a % 10 < 16} :
    (if j = f - 1 then Value.int .u8 (((⟨#[48, 49, 50, 51, 52, 53, 54, 55, 56, 57, 97, 98, 99, 100, 101, 102]⟩ : ByteArray)[a % 10]'h).toNat : Int) else decRow f suf j) = decRow (f - 1) (UInt8.ofNat (48 + a % 10) :: suf) j := by
  rw [dig10 _ h (by omega)]
  unfold decRow
  by_cases e : j = f - 1
  · subst e
    rw [if_pos rfl, if_pos (Nat.le_refl _), Nat.sub_self]
    rfl
  · rw [if_neg e]
    by_cases h2 : f ≤ j
    · rw [if_pos h2, if_pos (by omega), show j - (f - 1) = (j - f) + 1 by omega]
      simp [List.getD]
    · rw [if_neg h2, if_neg (by omega)]
theorem decRow_set {w : World} {b f : Nat} {t : TypeId} {suf : List UInt8} (hrow : w.rowIs b t 20 (decRow f suf)) (a : Nat) (hf : 1 ≤ f) (hf20 : f ≤ 20) (h : a % 10 < 16) :
    (w.setCell ⟨b, f - 1, none⟩ (Value.int .u8 (((⟨#[48, 49, 50, 51, 52, 53, 54, 55, 56, 57, 97, 98, 99, 100, 101, 102]⟩ : ByteArray)[a % 10]'h).toNat : Int))).rowIs b t 20 (decRow (f - 1) (UInt8.ofNat (48 + a % 10) :: suf)) :=
  (World.rowIs.set hrow (f - 1) _).congr fun j hj => decRow_step a f suf j hf hf20 hj
set_option maxRecDepth 100000 in
set_option maxHeartbeats 1000000 in
theorem dec_any (x : Int) (w : World) (h0 : 0 ≤ x) (h1 : x < 18446744073709551616) :
    Calls Tryz.prog 103 #[.int .u64 x] w fun e w' => e = .returned (.string ⟨(Lib.decDigits x.toNat).toArray⟩) ∧ Below w.heap.size w w' := by
  go_enter Tryz.func103, Tryz.ntmps103
  go_wp2
  go_loopw [0, 4] (fun v i wr => ∃ (a f : Nat) (suf : List UInt8), v = .int .u64 (a : Int) ∧ i = .int .i64 (f : Int) ∧ 1 ≤ f ∧ f ≤ 20 ∧ a < 18446744073709551616 ∧ Hid (a < 10 ^ f) ∧ Hid (suf.length = 20 - f) ∧
      Hid (Lib.decDigits x.toNat = Lib.decDigits a ++ suf) ∧ Hid (wr.rowIs w.heap.size 185 20 (decRow f suf)) ∧ Hid (Below w.heap.size w wr))
    (fun _ i _ => (intOf i).toNat)
  case atStart =>
    refine ⟨x.toNat, 20, [], by go_num, rfl, by omega, by omega, by omega, (by omega : x.toNat < 100000000000000000000), rfl, by simp [Hid], ?_, (Below.refl _ _).alloc (Nat.le_refl _) _⟩
    exact World.rowIs_alloc w _ _ _ (fun i hi => by
      have hi' : i < 20 := hi
      have : ∀ i, i < 20 → (#[Value.int IntKind.u8 0, Value.int IntKind.u8 0, Value.int IntKind.u8 0, Value.int IntKind.u8 0, Value.int IntKind.u8 0, Value.int IntKind.u8 0, Value.int IntKind.u8 0, Value.int IntKind.u8 0, Value.int IntKind.u8 0, Value.int IntKind.u8 0, Value.int IntKind.u8 0, Value.int IntKind.u8 0, Value.int IntKind.u8 0, Value.int IntKind.u8 0, Value.int IntKind.u8 0, Value.int IntKind.u8 0, Value.int IntKind.u8 0, Value.int IntKind.u8 0, Value.int IntKind.u8 0, Value.int IntKind.u8 0] : Array Value)[i]? = some (.int .u8 0) :=
        fun i hi => by
          have h : (Array.replicate 20 (Value.int IntKind.u8 0))[i]? = some (.int .u8 0) := by simp [hi]
          exact h
      rw [this i hi']
      simp [decRow])
  case round =>
    obtain ⟨a, f, suf, rfl, rfl, hf, hf20, ha, hpow, hsuf, hdig, hrow, hbel⟩ := hrel
    have hf1 : wr.frozen? ⟨w.heap.size, f - 1, none⟩ = false := World.rowIs.frozen hrow.out _
    have hc1 : wr.cell? ⟨w.heap.size, f - 1, none⟩ = some _ := World.rowIs.cell hrow.out (by omega)
    have hsl := sliceAt_l (P := Tryz.prog) 185 5 20 rfl rfl rfl size_u8 w.heap.size (f - 1) ((f : Int) - 1) (by omega) (by omega)
    by_cases hz : a < 10
    · have ht : ((a : Int) / 10 == 0) = true := by simp; omega
      have hd : ∀ W : World, W.rowIs w.heap.size 185 20 (decRow (f - 1) (UInt8.ofNat (48 + a % 10) :: suf)) →
          (convert 27 9 (.slice (some ⟨w.heap.size, f - 1, none⟩) (20 - (f - 1)) (20 - (f - 1)))).run Tryz.prog W = .ok (.string ⟨(UInt8.ofNat (48 + a % 10) :: suf).toArray⟩) W := fun W h =>
        run_str (rowIs_rd (B := w.heap.size + 1) h (by have := hsuf.out; simp; omega) (by omega) (by omega) (fun i hi => by unfold decRow; rw [if_pos (by omega), Nat.add_sub_cancel_left])) 27 5 9 rfl rfl rfl
      have hfin : (UInt8.ofNat (48 + a % 10) :: suf) = Lib.decDigits x.toNat := by rw [hdig.out, Lib.decDigits, dif_pos hz, Nat.mod_eq_of_lt hz]; rfl
      have HD := Lib.hid hd
      have HF := Lib.hid hfin
      clear hd hfin
      have hd := HD.out _ (decRow_set hrow.out a hf hf20 (by omega))
      go_wp2_with fail
      go_ret
      exact ⟨by rw [← HF.out]; simp, hbel.out.setCell (by simp) _⟩
    · have ht : ((a : Int) / 10 == 0) = false := by simp; omega
      go_wp2_with fail
      go_roundw
      case rel =>
        have hp := hpow.out
        have hs := hsuf.out
        have hf2 : 2 ≤ f := by
          rcases Nat.lt_or_ge f 2 with h | h
          · have : f = 1 := by omega
            subst this
            simp at hp
            omega
          · exact h
        refine ⟨a / 10, f - 1, UInt8.ofNat (48 + a % 10) :: suf, by go_num, by go_num, by omega, by omega, by omega, ?_, by simp [Hid]; omega, ?_, decRow_set hrow.out a hf hf20 (by omega), hbel.out.setCell (by simp) _⟩
        · have e : 10 ^ f = 10 ^ (f - 1) * 10 := by rw [← Nat.pow_succ]; congr 1; omega
          rw [e] at hp
          exact Nat.div_lt_of_lt_mul (by rw [Nat.mul_comm]; exact hp)
        · show Lib.decDigits x.toNat = _
          rw [hdig.out, Lib.decDigits, dif_neg hz]
          simp
      case measure => simp [intOf]; omega
end Go.Proofs.YtlecbblmaadpiaaGreatDoor
end
/- The plain mathematics of layer 6: bundles, the bytes that they are. No program's number stands here but the sums' (CrcR). -/
namespace Go.Proofs.YtlecbblmaadpiaaGreatDoor
/-! ### Endpoints' items -/
theorem letter_plain {c : UInt8} (h : lsB c = true) : (decide (32 ≤ c.toNat) && decide (c.toNat ≤ 126)) = true := by
  have h0 : ∀ v : Fin 256, lsB (UInt8.ofNat v.val) = true → (decide (32 ≤ (UInt8.ofNat v.val).toNat) && decide ((UInt8.ofNat v.val).toNat ≤ 126)) = true := by decide +kernel
  have := h0 ⟨c.toNat, c.toNat_lt⟩
  simp only [UInt8.ofNat_toNat] at this
  exact this h
theorem name_plain {s : List UInt8} (h : nameB s = true) : plain s = true := by
  obtain ⟨r, rfl, h2, -⟩ := name_head h
  have hr : (r.all fun c => decide (32 ≤ c.toNat) && decide (c.toNat ≤ 126)) = true := List.all_eq_true.2 fun c hc => letter_plain (List.all_eq_true.1 h2 c hc)
  unfold plain
  rw [List.all_cons, List.all_cons, hr]
  decide
theorem itemE_good {e : Epd} (h : checkB e = true) : right (itemE e) = true ∧ dep (itemE e) ≤ 2 ∧ par (itemE e) ≤ 5 := by
  by_cases h1 : e.scheme = 1
  · obtain ⟨hn, hs, hm⟩ := check_dtn h h1
    unfold itemE
    rw [if_neg (by omega)]
    by_cases h0 : e.name = []
    · rw [if_pos h0]
      exact ⟨by simp [right, rights, own], by simp [dep, deps], by simp [par, pars]⟩
    · rw [if_neg h0]
      have hp := name_plain (hm.resolve_left h0)
      exact ⟨by simp [right, rights, own, hp], by simp [dep, deps], by simp [par, pars]⟩
  · obtain ⟨h2, hm, -⟩ := check_ipn h h1
    unfold itemE
    rw [if_pos h2]
    exact ⟨by simp [right, rights, own], by simp [dep, deps], by simp [par, pars]⟩
theorem itemE_siz {e : Epd} (h : checkB e = true) : Siz (itemE e) := by
  by_cases h1 : e.scheme = 1
  · obtain ⟨hn, hs, hm⟩ := check_dtn h h1
    unfold itemE
    rw [if_neg (by omega)]
    by_cases h0 : e.name = []
    · rw [if_pos h0]
      exact ⟨by decide, by simp, by simp, ⟨by rw [h1]; decide, by simp, by simp, trivial⟩, ⟨by decide, by simp, by simp, trivial⟩, trivial⟩
    · rw [if_neg h0]
      obtain ⟨r, hr, -, -, -, hl⟩ := name_head (hm.resolve_left h0)
      exact ⟨by decide, by simp, by simp, ⟨by rw [h1]; decide, by simp, by simp, trivial⟩, ⟨by decide, by omega, by simp, trivial⟩, trivial⟩
  · obtain ⟨h2, hm, -, h3, h4⟩ := check_ipn h h1
    unfold itemE
    rw [if_pos h2]
    exact ⟨by decide, by simp, by simp, ⟨by rw [h2]; decide, by simp, by simp, trivial⟩, ⟨by decide, by simp, by simp, ⟨by omega, by simp, by simp, trivial⟩, ⟨by omega, by simp, by simp, trivial⟩, trivial⟩, trivial⟩
/-! ### Bundles -/
structure Bun where
  flg : Nat
  crc : Int
  dst : Epd
  src : Epd
  rep : Epd
  tim : Nat
  seq : Nat
  lif : Nat
  blks : List Blk
def BdP (b : Bun) : Prop := b.flg < 18446744073709551616 ∧ b.tim < 18446744073709551616 ∧ b.seq < 18446744073709551616 ∧ b.lif < 18446744073709551616
def Wr (b : Bun) : Prop := (0 ≤ b.crc ∧ b.crc ≤ 2) ∧ checkB b.dst = true ∧ checkB b.src = true ∧ checkB b.rep = true
def partsP (b : Bun) : List Itm := [.mk 0 7 [] [], .mk 0 b.flg [] [], .mk 0 b.crc.toNat [] [], itemE b.dst, itemE b.src, itemE b.rep, .mk 4 0 [] [.mk 0 b.tim [] [], .mk 0 b.seq [] []], .mk 0 b.lif [] []]
def itmP (b : Bun) (s : List UInt8) : Itm := .mk 4 0 [] (partsP b ++ if b.crc = 0 then [] else [.mk 2 0 s []])
def bodyP (b : Bun) : List UInt8 := hd 4 (if b.crc = 0 then 8 else 9) ++ (wrs (partsP b) ++ if b.crc = 0 then [] else hd 2 (sumN b.crc))
def nullsP (b : Bun) : List UInt8 := List.replicate (sumN b.crc) 0
def sumP (b : Bun) : List UInt8 := crcBytes b.crc (bodyP b ++ nullsP b)
def primW (b : Bun) : List UInt8 := bodyP b ++ sumP b
theorem sumP_len (b : Bun) : (sumP b).length = sumN b.crc := crcBytes_len _ _
theorem wri_itmP (b : Bun) (s : List UInt8) (hs : s.length = sumN b.crc) : wri (itmP b s) = bodyP b ++ s := by
  unfold itmP
  rw [wri, if_neg (by decide), if_neg (by decide), if_pos rfl]
  unfold bodyP
  by_cases h0 : b.crc = 0
  · have : s = [] := List.eq_nil_of_length_eq_zero (by rw [hs, h0]; rfl)
    subst this
    simp only [if_pos h0, List.append_nil]
    rw [show (partsP b).length = 8 from rfl]
  · simp only [if_neg h0]
    rw [wrs_ap, show (partsP b ++ [Itm.mk 2 0 s []]).length = 9 from rfl, wrs, wri_b, wrs, hs]
    simp [List.append_assoc]
theorem itmP_fits {b : Bun} (s : List UInt8) (h : Wr b) : Fits (itmP b s) := by
  obtain ⟨-, hd, hs, hr⟩ := h
  obtain ⟨d1, d2, d3⟩ := itemE_good hd
  obtain ⟨s1, s2, s3⟩ := itemE_good hs
  obtain ⟨r1, r2, r3⟩ := itemE_good hr
  unfold itmP partsP
  by_cases h0 : b.crc = 0
  · simp only [if_pos h0]
    exact ⟨by simp [right, rights, own, d1, s1, r1], by simp [dep, deps]; omega, by simp [par, pars]; omega⟩
  · simp only [if_neg h0]
    exact ⟨by simp [right, rights, own, d1, s1, r1], by simp [dep, deps]; omega, by simp [par, pars]; omega⟩
theorem itmP_siz {b : Bun} (s : List UInt8) (h : Wr b) (hb : BdP b) (hs : s.length < 18446744073709551616) : Siz (itmP b s) := by
  obtain ⟨hc, hd, hsr, hr⟩ := h
  obtain ⟨h1, h2, h3, h4⟩ := hb
  have h5 : b.crc.toNat < 18446744073709551616 := by omega
  have d1 := itemE_siz hd
  have s1 := itemE_siz hsr
  have r1 := itemE_siz hr
  unfold itmP partsP
  have hrow : ∀ t : List Itm, Sizs t → Sizs ([.mk 0 7 [] [], .mk 0 b.flg [] [], .mk 0 b.crc.toNat [] [], itemE b.dst, itemE b.src, itemE b.rep, .mk 4 0 [] [.mk 0 b.tim [] [], .mk 0 b.seq [] []], .mk 0 b.lif [] []] ++ t) := fun t ht =>
    ⟨⟨by decide, by simp, by simp, trivial⟩, ⟨h1, by simp, by simp, trivial⟩, ⟨h5, by simp, by simp, trivial⟩, d1, s1, r1, ⟨by decide, by simp, by simp, ⟨h2, by simp, by simp, trivial⟩, ⟨h3, by simp, by simp, trivial⟩, trivial⟩, ⟨h4, by simp, by simp, trivial⟩, ht⟩
  by_cases h0 : b.crc = 0
  · simp only [if_pos h0]
    exact ⟨by decide, by simp, by simp, hrow [] trivial⟩
  · simp only [if_neg h0]
    exact ⟨by decide, by simp, by simp, hrow _ ⟨⟨by decide, hs, by simp, trivial⟩, trivial⟩⟩
theorem prim_dec {b : Bun} (h : Wr b) (hb : BdP b) (m : List UInt8) : decode (primW b ++ m) = (itmP b (sumP b), ((primW b).length : Int), 0) := by
  have hw := wri_itmP b (sumP b) (sumP_len b)
  have := decode_wr (itmP_fits (sumP b) h) (itmP_siz (sumP b) h hb (by rw [sumP_len]; have := sumN_le b.crc; omega)) m
  rw [hw] at this
  exact this
def PrimAt (l : List UInt8) (b : Bun) : Prop := Wr b ∧ BdP b ∧ ∃ m, l = primW b ++ m
theorem PrimAt.dec {l : List UInt8} {b : Bun} (h : PrimAt l b) : decode l = (itmP b (sumP b), ((primW b).length : Int), 0) := by
  obtain ⟨h1, h2, m, rfl⟩ := h
  exact prim_dec h1 h2 m
end Go.Proofs.YtlecbblmaadpiaaGreatDoor
