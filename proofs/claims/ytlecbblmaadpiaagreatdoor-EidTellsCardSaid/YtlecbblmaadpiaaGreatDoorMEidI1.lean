/- What Uint, Text and Bytes of layer 3 return; and bytes.Clone. -/
import Derived.Test.YtlecbblmaadpiaaGreatDoorMCborCs
import Derived.Test.YtlecbblmaadpiaaGreatDoorMCborM
import Derived.Test.YtlecbblmaadpiaaGreatDoorMEidD
import Derived.Test.YtlecbblmaadpiaaGreatDoorMEidM
import Derived.Test.YtlecbblmaadpiaaGreatDoorMEidS
import Derived.Test.YtlecbblmaadpiaaGreatDoorMKWrite
import Derived.Test.YtlecbblmaadpiaaGreatDoorMMask
import Derived.Test.YtlecbblmaadpiaaGreatDoorRows
import Derived.Lib.Bytealg
import Derived.Lib.IndexLaws
import Derived.Lib.ParseIntB
import Derived.Lib.Strings
import Derived.Shelf.RegionOpenPlain
import Derived.Deep.DeepFit
namespace Go.Proofs.YtlecbblmaadpiaaGreatDoor
open Go.RowKit
set_option maxRecDepth 100000 in
set_option maxHeartbeats 1000000 in
theorem bclone_any (A : Option Addr) (n c B : Nat) (l : List UInt8) (w : World) (hB : B ≤ w.heap.size) (h : Rd w B A n l) (hn : n ≤ 140737488355328) :
    Calls Tryz.prog 104 #[.slice A n c] w (GivesO 5 l w) := by
  have hl := h.1
  rcases A with _ | a
  · have h0 : n = 0 := by
      rcases Nat.eq_zero_or_pos n with h0 | h0
      · exact h0
      · obtain ⟨_, _, e, _⟩ := h.2 h0
        cases e
    subst h0
    have e : l = [] := List.eq_nil_of_length_eq_zero hl
    subst e
    have q22 := fun (W : World) (a : Option Addr) (n c : Nat) => Lib.run_eql_slice_nil (P := Tryz.prog) W 27 5 a n c 0 0 Tryz.underlying27
    go_enter Tryz.func104, Tryz.ntmps104
    go_wp2_with fail
    go_ret
    exact ⟨_, rfl, Ob.nil_ _ _ _, Below.refl _ _⟩
  · have HR := Lib.hid (h.alloc hB (.cells #[] 5))
    have HO := Lib.hid (show Ob (w.alloc (.cells #[] 5)) w.heap.size 5 (.slice (some ⟨w.heap.size, 0, none⟩) 0 0) [] from Ob.lit w [] #[] rfl (Nat.le_refl _) 0 rfl (by decide))
    have HN : Hid (([] : List UInt8).length + n ≤ 140737488355328) := by show _ ≤ _; simp; exact hn
    clear h hn hl hB
    have q22 := fun (W : World) (a : Option Addr) (n c : Nat) => Lib.run_eql_slice_nil (P := Tryz.prog) W 27 5 a n c 0 0 Tryz.underlying27
    go_enter Tryz.func104, Tryz.ntmps104
    go_wp2_with (first
      | (at_builtin; refine wpList_appB rfl (.tmp 5) (.tmp 6) 27 rfl w.heap.size 5 Tryz.underlying27 info_u8 _ [] rfl HO.out B (some a) n c l rfl HR.out HN.out (by simp) ?_; intro v1 w1 ho1 hb1; have O1 := Lib.hid ho1; have B1 := Lib.hid (((Below.refl w.heap.size w).alloc (Nat.le_refl _) _).trans hb1); clear ho1 hb1)
      | fail)
    go_ret
    exact ⟨_, rfl, by have := O1.out; rwa [List.nil_append] at this, B1.out⟩
end Go.Proofs.YtlecbblmaadpiaaGreatDoor
/- Text of layer 3. -/
namespace Go.Proofs.YtlecbblmaadpiaaGreatDoor
open Go.RowKit
end Go.Proofs.YtlecbblmaadpiaaGreatDoor
/- In the place of EidA where the whole of layer 3 lies in the dump (imports alone). -/
/- The plain mathematics of layer 4, second part: a text cut at its first c; a name by its pieces; digits read as they were written; whose text, or item, something could be. No program's number stands here. -/
namespace Go.Proofs.YtlecbblmaadpiaaGreatDoor
open Go.Lib (decDigits)
def ahead (c : UInt8) (l : List UInt8) : List UInt8 := l.takeWhile fun x => x != c
def behind (c : UInt8) (l : List UInt8) : List UInt8 := l.drop ((ahead c l).length + 1)
def hasB (c : UInt8) (l : List UInt8) : Bool := decide ((ahead c l).length < l.length)
theorem ahead_nil (c : UInt8) : ahead c [] = [] := rfl
theorem ahead_cons (c x : UInt8) (l : List UInt8) : ahead c (x :: l) = if x = c then [] else x :: ahead c l := by
  unfold ahead
  rw [List.takeWhile_cons]
  by_cases h : x = c <;> simp [h]
theorem ahead_no (c : UInt8) : ∀ l : List UInt8, ∀ x ∈ ahead c l, x ≠ c
  | [], x, h => by rw [ahead_nil] at h; cases h
  | y :: l, x, h => by
    rw [ahead_cons] at h
    split at h
    · cases h
    · rename_i hne
      rcases List.mem_cons.1 h with rfl | h
      · exact hne
      · exact ahead_no c l x h
theorem ahead_le (c : UInt8) : ∀ l : List UInt8, (ahead c l).length ≤ l.length
  | [] => Nat.le_refl _
  | y :: l => by
    rw [ahead_cons]
    split
    · exact Nat.zero_le _
    · have := ahead_le c l; simp only [List.length_cons]; omega
theorem ahead_take (c : UInt8) : ∀ l : List UInt8, ahead c l = l.take (ahead c l).length
  | [] => rfl
  | y :: l => by
    rw [ahead_cons]
    split
    · rfl
    · have := ahead_take c l
      simp only [List.length_cons, List.take_succ_cons]
      rw [← this]
theorem ahead_all {c : UInt8} {l : List UInt8} (h : hasB c l = false) : ahead c l = l := by
  have h1 := ahead_le c l
  have h2 : (ahead c l).length = l.length := by unfold hasB at h; simp at h; omega
  rw [ahead_take c l, h2, List.take_length]
theorem behind_nil {c : UInt8} {l : List UInt8} (h : hasB c l = false) : behind c l = [] := by
  unfold behind
  rw [ahead_all h]
  simp
theorem cut_eq {c : UInt8} : ∀ {l : List UInt8}, hasB c l = true → l = ahead c l ++ c :: behind c l
  | [], h => by simp [hasB] at h
  | y :: l, h => by
    unfold behind
    rw [ahead_cons]
    by_cases hy : y = c
    · subst hy; simp
    · rw [if_neg hy]
      have h' : hasB c l = true := by
        unfold hasB at h ⊢
        rw [ahead_cons, if_neg hy] at h
        simp at h ⊢
        omega
      have e := cut_eq h'
      unfold behind at e
      simp only [List.length_cons, List.drop_succ_cons, List.cons_append]
      rw [← e]
theorem ahead_app {c : UInt8} : ∀ {u : List UInt8} (t : List UInt8), (∀ x ∈ u, x ≠ c) → ahead c (u ++ c :: t) = u
  | [], t, _ => by rw [List.nil_append, ahead_cons, if_pos rfl]
  | y :: u, t, h => by
    rw [List.cons_append, ahead_cons, if_neg (h y (by simp)), ahead_app t (fun x hx => h x (by simp [hx]))]
theorem has_app {c : UInt8} {u t : List UInt8} (h : ∀ x ∈ u, x ≠ c) : hasB c (u ++ c :: t) = true ∧ behind c (u ++ c :: t) = t := by
  unfold hasB behind
  rw [ahead_app t h]
  refine ⟨by simp, ?_⟩
  rw [List.drop_append]
  simp
theorem index_ahead (c : UInt8) : ∀ l : List UInt8, Lib.indexByte l c = if hasB c l = true then ((ahead c l).length : Int) else -1
  | [] => by simp [Lib.indexByte, hasB]
  | y :: l => by
    have ih := index_ahead c l
    have e1 : hasB c (y :: l) = if y = c then true else hasB c l := by
      unfold hasB
      rw [ahead_cons]
      by_cases hy : y = c <;> simp [hy]
    rw [Lib.indexByte, e1, ahead_cons]
    by_cases hy : y = c
    · subst hy; simp
    · have hb : (y == c) = false := by simpa using hy
      rw [hb, if_neg hy, if_neg hy, ih]
      rw [if_neg (by simp)]
      by_cases hh : hasB c l = true
      · rw [if_pos hh, if_pos hh]
        have : ¬ ((((ahead c l).length : Int) == -1) = true) := by rw [beq_iff_eq]; omega
        rw [if_neg this, List.length_cons]
        omega
      · rw [if_neg hh, if_neg hh]; rfl
theorem parse_app (M : Nat) : ∀ (l t : List UInt8) (acc v : Nat), Lib.parseUintM M acc l = .ok v → Lib.parseUintM M acc (l ++ t) = Lib.parseUintM M v t
  | [], t, acc, v, h => by
    simp only [Lib.parseUintM] at h
    cases h
    rfl
  | c :: r, t, acc, v, h => by
    simp only [Lib.parseUintM] at h
    simp only [List.cons_append, Lib.parseUintM]
    split at h
    · rename_i hd
      rw [if_pos hd]
      split at h
      · cases h
      · rename_i h1
        rw [if_neg h1]
        split at h
        · cases h
        · rename_i h2
          rw [if_neg h2]
          exact parse_app M r t _ v h
    · cases h
theorem parse_dec (M : Nat) (hM : M ≤ 4294967295) : ∀ n : Nat, n ≤ M → Lib.parseUintM M 0 (decDigits n) = .ok n := by
  intro n
  induction n using Nat.strongRecOn with
  | _ n ih =>
    intro hn
    have hd : ∀ d : Nat, d < 10 → (UInt8.ofNat (48 + d)).toNat = 48 + d := fun d h => by
      have h2 : ∀ d : Fin 10, (UInt8.ofNat (48 + d.val)).toNat = 48 + d.val := by decide +kernel
      exact h2 ⟨d, h⟩
    by_cases hx : n < 10
    · rw [dec_small hx]
      simp only [Lib.parseUintM]
      rw [hd n hx, if_pos (by omega), if_neg (by omega), if_neg (by omega)]
      congr 1
      omega
    · rw [dec_big hx, parse_app M _ _ 0 (n / 10) (ih (n / 10) (by omega) (by omega))]
      simp only [Lib.parseUintM]
      rw [hd (n % 10) (by omega), if_pos (by omega), if_neg (by omega), if_neg (by omega)]
      congr 1
      omega
theorem dec_ne_nil (n : Nat) : decDigits n ≠ [] := by
  by_cases hx : n < 10
  · rw [dec_small hx]; simp
  · rw [dec_big hx]; simp
theorem parse32 (n : Nat) (h : n ≤ 4294967295) : Lib.parseUintB 32 (decDigits n) = .ok n := by
  unfold Lib.parseUintB
  rw [if_neg (dec_ne_nil n)]
  exact parse_dec _ (by decide) n (by omega)
theorem parse32_le {l : List UInt8} {n : Nat} (h : Lib.parseUintB 32 l = .ok n) : n ≤ 4294967295 := by
  have key : ∀ (l : List UInt8) (acc v : Nat), acc ≤ 4294967295 → Lib.parseUintM 4294967295 acc l = .ok v → v ≤ 4294967295 := by
    intro l
    induction l with
    | nil => intro acc v ha h; simp only [Lib.parseUintM] at h; cases h; exact ha
    | cons c r ih =>
      intro acc v ha h
      simp only [Lib.parseUintM] at h
      split at h
      · split at h
        · cases h
        · split at h
          · cases h
          · exact ih _ _ (by omega) h
      · cases h
  unfold Lib.parseUintB at h
  split at h
  · cases h
  · exact key l 0 n (by omega) h
def nameC (s : List UInt8) : Bool :=
  decide (s.length ≤ 64) && (Lib.hasPrefix s [47, 47] && (hasB 47 (s.drop 2) && (!(ahead 47 (s.drop 2)).isEmpty && ((ahead 47 (s.drop 2)).all letterB && (behind 47 (s.drop 2)).all lsB))))
theorem beq_comm_u (a b : UInt8) : (a == b) = (b == a) := by
  by_cases h : a = b
  · subst h; rfl
  · have h2 : ¬ b = a := fun e => h e.symm
    rw [beq_eq_false_iff_ne.2 h, beq_eq_false_iff_ne.2 h2]
theorem toSlash_ahead (l : List UInt8) : toSlash l = (ahead 47 l).length := rfl
theorem letter_ls {c : UInt8} (h : c ≠ 47) : lsB c = letterB c := by
  unfold lsB
  have : (c == 47) = false := by simpa using h
  rw [this, Bool.false_or]
theorem all_ls {l : List UInt8} (h : ∀ x ∈ l, x ≠ 47) : l.all lsB = l.all letterB := by
  induction l with
  | nil => rfl
  | cons a l ih =>
    rw [List.all_cons, List.all_cons, letter_ls (h a (by simp)), ih (fun x hx => h x (by simp [hx]))]
theorem nameC_eq (s : List UInt8) : nameC s = nameB s := by
  unfold nameC nameB
  congr 1
  match s with
  | [] => rfl
  | [a] => simp [Lib.hasPrefix, List.isPrefixOf]
  | a :: b :: r =>
    have e1 : Lib.hasPrefix (a :: b :: r) [47, 47] = (a == 47 && b == 47) := by
      simp only [Lib.hasPrefix, List.isPrefixOf, Bool.and_true]
      rw [show ((47 : UInt8) == a) = (a == 47) from beq_comm_u _ _, show ((47 : UInt8) == b) = (b == 47) from beq_comm_u _ _]
    rw [e1]
    congr 1
    show (hasB 47 r && _) = _
    rw [show (a :: b :: r).drop 2 = r from rfl]
    by_cases hh : hasB 47 r = true
    · have e := cut_eq hh
      have e2 : r.all lsB = ((ahead 47 r).all letterB && (behind 47 r).all lsB) := by
        conv => lhs; rw [e]
        rw [List.all_append, List.all_cons, all_ls (ahead_no 47 r)]
        rfl
      have e3 : decide (toSlash r < r.length) = true := hh
      have e4 : (!(ahead 47 r).isEmpty) = decide (1 ≤ toSlash r) := by
        rw [toSlash_ahead]
        cases ahead 47 r <;> simp
      rw [hh, e3, e2, e4, Bool.true_and, Bool.and_true, Bool.and_comm]
    · have e3 : decide (toSlash r < r.length) = false := by rw [Bool.not_eq_true] at hh; exact hh
      rw [Bool.not_eq_true] at hh
      rw [hh, e3, Bool.false_and, Bool.and_false, Bool.and_false]
end Go.Proofs.YtlecbblmaadpiaaGreatDoor
/- What layer 4's questions about bytes and texts return: isLetter, or's function, only (at both), isName; strings.Cut at one byte. -/
namespace Go.Proofs.YtlecbblmaadpiaaGreatDoor
open Go.RowKit
theorem letter_num (x : UInt8) : letterB x = ((decide (97 ≤ x.toNat) && decide (x.toNat ≤ 122)) || ((decide (48 ≤ x.toNat) && decide (x.toNat ≤ 57)) || (decide (x.toNat = 46) || (decide (x.toNat = 45) || decide (x.toNat = 95))))) := by
  have e : ∀ k : UInt8, (x == k) = decide (x.toNat = k.toNat) := fun k => by
    by_cases h : x = k
    · subst h; simp
    · rw [beq_eq_false_iff_ne.2 h, decide_eq_false]
      intro h2
      exact h (UInt8.toNat_inj.1 h2)
  unfold letterB
  rw [e 46, e 45, e 95]
  rfl
set_option maxRecDepth 100000 in
set_option maxHeartbeats 1000000 in
theorem isletter_n (X : Nat) (w : World) :
    Calls Tryz.prog 190 #[.int .u8 (X : Int)] w fun e w' => e = .returned (.bool ((decide (97 ≤ X) && decide (X ≤ 122)) || ((decide (48 ≤ X) && decide (X ≤ 57)) || (decide (X = 46) || (decide (X = 45) || decide (X = 95)))))) ∧ w = w' := by
  obtain ⟨R, hR⟩ : ∃ R, R = ((decide (97 ≤ X) && decide (X ≤ 122)) || ((decide (48 ≤ X) && decide (X ≤ 57)) || (decide (X = 46) || (decide (X = 45) || decide (X = 95))))) := ⟨_, rfl⟩
  rw [← hR]
  have HR := Lib.hid hR
  clear hR
  go_enter Tryz.func190, Tryz.ntmps190
  go_wp2
  all_goals go_ret
  all_goals
    refine ⟨congrArg (fun b => Ending.returned (Value.bool b)) ((?_ : _ = _).trans HR.out.symm), rfl⟩
    rw [Bool.eq_iff_iff]
    simp
    try omega
theorem isletter_any (x : UInt8) (w : World) :
    Calls Tryz.prog 190 #[.int .u8 (x.toNat : Int)] w fun e w' => e = .returned (.bool (letterB x)) ∧ w = w' := by
  rw [letter_num]
  exact isletter_n x.toNat w
def lsFn (b1 b2 : Nat) : Value := .func (.func 215) #[] #[.pointer (some ⟨b1, 0, none⟩), .pointer (some ⟨b2, 0, none⟩)]
structure LsAt2 (b1 b2 : Nat) (w : World) : Prop where
  f : w.cell? ⟨b1, 0, none⟩ = some (.func (.func 190) #[] #[])
  s : w.cell? ⟨b2, 0, none⟩ = some (.string ⟨#[47]⟩)
end Go.Proofs.YtlecbblmaadpiaaGreatDoor
/- The reader of layer 3: its state in memory, and what its small calls return. The reader of layer 3: take, and what reads items without a list. -/
namespace Go.Proofs.YtlecbblmaadpiaaGreatDoor
open Go.RowKit
structure RSt (w : World) (g : Nat) (A : Option Addr) (n c : Nat) (bs : List UInt8) (i p d : Nat) : Prop where
  c0 : w.cell? ⟨g, 0, none⟩ = some (.slice A n c)
  c1 : w.cell? ⟨g, 1, none⟩ = some (.int .i64 (i : Int))
  c2 : w.cell? ⟨g, 2, none⟩ = some (.int .i64 (p : Int))
  c3 : w.cell? ⟨g, 3, none⟩ = some (.int .i64 (d : Int))
  f1 : w.frozen? ⟨g, 1, none⟩ = false
  f2 : w.frozen? ⟨g, 2, none⟩ = false
  f3 : w.frozen? ⟨g, 3, none⟩ = false
  rd : Rd w g A n bs
  hi : i ≤ n
  hn : n ≤ 140737488355328
  hc : n ≤ c
section
variable {w w' : World} {g n c i p d : Nat} {A : Option Addr} {bs : List UInt8}
theorem RSt.lt (h : RSt w g A n c bs i p d) : g < w.heap.size := World.block_lt_of_cell? w ⟨g, 0, none⟩ h.c0
theorem RSt.below {B : Nat} (h : RSt w g A n c bs i p d) (hb : Below B w w') (hg : g < B) : RSt w' g A n c bs i p d :=
  ⟨(hb.cell (p := ⟨g, 0, none⟩) hg).trans h.c0, (hb.cell (p := ⟨g, 1, none⟩) hg).trans h.c1, (hb.cell (p := ⟨g, 2, none⟩) hg).trans h.c2, (hb.cell (p := ⟨g, 3, none⟩) hg).trans h.c3,
    (hb.frozen (p := ⟨g, 1, none⟩) hg).trans h.f1, (hb.frozen (p := ⟨g, 2, none⟩) hg).trans h.f2, (hb.frozen (p := ⟨g, 3, none⟩) hg).trans h.f3, h.rd.keep fun _ hq => hb.cell (Nat.lt_trans hq hg), h.hi, h.hn, h.hc⟩
theorem RSt.alloc (h : RSt w g A n c bs i p d) (o : Obj) : RSt (w.alloc o) g A n c bs i p d := h.below ((Below.refl _ _).alloc (Nat.le_refl _) o) h.lt
theorem RSt.drew (h : RSt w g A n c bs i p d) : RSt w.drew g A n c bs i p d := ⟨h.c0, h.c1, h.c2, h.c3, h.f1, h.f2, h.f3, h.rd, h.hi, h.hn, h.hc⟩
theorem cell_set_ne {w : World} {g j k : Nat} {v u : Value} (h : j ≠ k) (hc : w.cell? ⟨g, k, none⟩ = some u) : (w.setCell ⟨g, j, none⟩ v).cell? ⟨g, k, none⟩ = some u := by
  rw [World.cell?_setCell_other _ _ _ _ (fun e => by injection e with _ e2; exact h e2)]
  exact hc
theorem RSt.byte (h : RSt w g A n c bs i p d) (hl : i < n) : ∃ (b o : Nat) (x : UInt8), A = some ⟨b, o, none⟩ ∧ w.cell? ⟨b, o + i, none⟩ = some (.int .u8 (x.toNat : Int)) ∧ bs.drop i = x :: bs.drop (i + 1) ∧ b < g := by
  obtain ⟨b, o, e, hb, hc⟩ := h.rd.2 (by omega)
  have hlen := h.rd.1
  refine ⟨b, o, bs.getD i 0, e, hc i hl, ?_, hb⟩
  rw [List.drop_eq_getElem_cons (by omega)]
  simp [List.getD, show i < bs.length by omega]
end
theorem below_drewN (B : Nat) (w : World) (k : Nat) : Below B w (w.drewN k) := ⟨rfl, rfl, rfl, Nat.le_refl _, fun _ _ => rfl⟩
theorem RSt.drewN {w : World} {g n c i p d : Nat} {A : Option Addr} {bs : List UInt8} (h : RSt w g A n c bs i p d) (k : Nat) : RSt (w.drewN k) g A n c bs i p d := h.below (below_drewN _ _ _) h.lt
section
variable {w : World} {g n c i p d : Nat} {A : Option Addr} {bs : List UInt8}
def set4 (w : World) (b : Nat) (u0 u1 u2 u3 : Value) : World := (((w.setCell ⟨b, 0, none⟩ u0).setCell ⟨b, 1, none⟩ u1).setCell ⟨b, 2, none⟩ u2).setCell ⟨b, 3, none⟩ u3
theorem set4_below {w0 : World} {B b : Nat} {u0 u1 u2 u3 : Value} (h : Below B w0 w) (hb : B ≤ b) : Below B w0 (set4 w b u0 u1 u2 u3) := below_set4 h hb
theorem RSt.set4 {b : Nat} {u0 u1 u2 u3 : Value} (h : RSt w g A n c bs i p d) (hb : g < b) : RSt (set4 w b u0 u1 u2 u3) g A n c bs i p d :=
  h.below (B := b) (set4_below (Below.refl _ _) (Nat.le_refl _)) hb
theorem Ob.news {base m cp : Nat} {t : TypeId} {A : Option Addr} {l : List UInt8} (h : Ob w base t (.slice A m cp) l) : Rd (mask (lows base) w) w.heap.size A m l := by
  obtain ⟨hl, hr, hc, hm⟩ := h.rd_
  refine ⟨hl, fun h0 => ?_⟩
  obtain ⟨gg, cap, hv, hb, hlt, _⟩ := h.form (by omega)
  injection hv with h1 h2 h3
  subst h1
  obtain ⟨b, o, e, hbb, hcell⟩ := hr.2 h0
  injection e with e
  injection e with e1 e2
  subst e1 e2
  exact ⟨gg, 0, rfl, hlt, fun j hj => (mask_cell (lows_f.2 hb)).trans (hcell j hj)⟩
theorem RdI.bare {w' : World} {B B' m : Nat} {k : Int} {v : Value} (h : RdI w B v (.mk k m [] [])) : RdI w' B' v (.mk k m [] []) := by
  rw [RdI] at h ⊢
  obtain ⟨A, nd, cd, AL, nl, cl, e, h1, h2, h3, h4, h5, h6, _⟩ := h
  have hd : nd = 0 := h4.1.symm
  have hl : nl = 0 := h6.symm
  subst hd hl
  exact ⟨A, 0, cd, AL, 0, cl, e, h1, h2, h3, Rd.nil_, h5, rfl, fun h => absurd h (Nat.lt_irrefl _)⟩
end
end Go.Proofs.YtlecbblmaadpiaaGreatDoor
/- What Uint and Text of layer 3 return, with nothing in it that is read below a block lo; an item stored into cells of one's own. -/
namespace Go.Proofs.YtlecbblmaadpiaaGreatDoor
open Go.RowKit
def GivesL (lo : Nat) (x : Itm) (w : World) (e : Ending) (w' : World) : Prop := ∃ v, e = .returned v ∧ RdI (mask (lows lo) w') w'.heap.size v x ∧ Below w.heap.size w w'
theorem Rd.mask_one {w : World} {lo B n b o : Nat} {l : List UInt8} (h : Rd w B (some ⟨b, o, none⟩) n l) (hb : lo ≤ b) : Rd (mask (lows lo) w) B (some ⟨b, o, none⟩) n l :=
  ⟨h.1, fun hn => by
    obtain ⟨b', o', e, hB, hc⟩ := h.2 hn
    injection e with e
    injection e with e1 e2
    subst e1 e2
    exact ⟨b, o, rfl, hB, fun i hi => (mask_cell (lows_f.2 hb)).trans (hc i hi)⟩⟩
theorem RdI.put4 {W : World} {B B' g lo lo' : Nat} {v : Value} {x : Itm} {u0 u1 u2 u3 : Value} (h : RdI (mask (lows lo) W) B v x) (hl : lo' ≤ lo) (hg : g < lo) (hB : B ≤ B') :
    RdI (mask (lows lo') ((((W.setCell ⟨g, 0, none⟩ u0).setCell ⟨g, 1, none⟩ u1).setCell ⟨g, 2, none⟩ u2).setCell ⟨g, 3, none⟩ u3)) B' v x :=
  h.sub hB fun q u _ hc => by
    have h1 := lows_f.1 (mask_out hc)
    have hq : ¬ g = q.block := by omega
    rw [mask_cell (lows_f.2 (by omega)), World.cell?_setCell_far _ _ _ _ hq, World.cell?_setCell_far _ _ _ _ hq, World.cell?_setCell_far _ _ _ _ hq, World.cell?_setCell_far _ _ _ _ hq]
    exact mask_sub hc
theorem RdI.grow {W W' : World} {lo lo' : Nat} {v : Value} {x : Itm} (h : RdI (mask (lows lo) W) W.heap.size v x) (hb : Below W.heap.size W W') (hl : lo' ≤ lo) : RdI (mask (lows lo') W') W'.heap.size v x :=
  h.sub hb.size fun q u hp hc => by
    have h1 := lows_f.1 (mask_out hc)
    rw [mask_cell (lows_f.2 (by omega)), hb.cell hp]
    exact mask_sub hc
theorem size_put4 {W : World} {g : Nat} {u0 u1 u2 u3 : Value} : ((((W.setCell ⟨g, 0, none⟩ u0).setCell ⟨g, 1, none⟩ u1).setCell ⟨g, 2, none⟩ u2).setCell ⟨g, 3, none⟩ u3).heap.size = W.heap.size := by simp [World.setCell]
theorem zero4 {w W' : World} {g : Nat} (hg : g = w.heap.size) (h : Below (g + 1) (w.alloc (.cells #[.int .i64 0, .int .u64 0, .slice none 0 0, .slice none 0 0] 30)) W') :
    (W'.cell? ⟨g, 0, none⟩ = some (.int .i64 0) ∧ W'.cell? ⟨g, 1, none⟩ = some (.int .u64 0) ∧ W'.cell? ⟨g, 2, none⟩ = some (.slice none 0 0) ∧ W'.cell? ⟨g, 3, none⟩ = some (.slice none 0 0)) ∧
    (W'.frozen? ⟨g, 0, none⟩ = false ∧ W'.frozen? ⟨g, 1, none⟩ = false ∧ W'.frozen? ⟨g, 2, none⟩ = false ∧ W'.frozen? ⟨g, 3, none⟩ = false) := by
  subst hg
  exact zero_cells h
set_option maxRecDepth 100000 in
set_option maxHeartbeats 1000000 in
theorem cuintL_any (lo n : Nat) (w : World) (h : n < 18446744073709551616) :
    Calls Tryz.prog 115 #[.int .u64 (n : Int)] w (GivesL lo (.mk 0 n [] []) w) := by
  go_enter Tryz.func115, Tryz.ntmps115
  go_wp2_with fail
  have hr := fun W B => RdI.mk_uint (w := W) (B := B) (n := n) h
  exact bodyPost_ret (v := .agg #[.int .i64 0, .int .u64 (n : Int), .slice none 0 0, .slice none 0 0]) (by simp [results, Tryz.results115, go_sem]) rfl ⟨_, rfl, hr _ _, (Below.refl _ _).alloc (Nat.le_refl _) _⟩
set_option maxRecDepth 100000 in
set_option maxHeartbeats 1000000 in
theorem ctextL_any (lo : Nat) (s : ByteArray) (w : World) (hlo : lo ≤ w.heap.size) (hs : s.size ≤ 140737488355328) :
    Calls Tryz.prog 150 #[.string s] w (GivesL lo (.mk 3 0 s.data.toList []) w) := by
  obtain ⟨c, W', hrun, hrd, hc, hb, hz⟩ := conv_bytes (w.alloc (.cells #[.int .i64 0, .int .u64 0, .slice none 0 0, .slice none 0 0] 30)) s
  have hz1 : (w.alloc (.cells #[.int .i64 0, .int .u64 0, .slice none 0 0, .slice none 0 0] 30)).heap.size = w.heap.size + 1 := by simp
  rw [hz1] at hrun hrd hb hz
  obtain ⟨⟨z0, z1, z2, z3⟩, f0, f1, f2, f3⟩ := zero_cells hb
  have HRD := Lib.hid hrd
  have HB := Lib.hid hb
  have HZ := Lib.hid hz
  have HS := Lib.hid hs
  have HLO := Lib.hid hlo
  clear hrd hb hz hz1 hs hlo
  go_enter Tryz.func150, Tryz.ntmps150
  go_wp2_with fail
  have hsz4 : ((((W'.setCell ⟨w.heap.size, 0, none⟩ (.int .i64 3)).setCell ⟨w.heap.size, 1, none⟩ (.int .u64 0)).setCell ⟨w.heap.size, 2, none⟩ (.slice (some ⟨w.heap.size + 1, 0, none⟩) s.size c)).setCell ⟨w.heap.size, 3, none⟩ (.slice none 0 0)).heap.size = W'.heap.size := by simp [World.setCell]
  refine bodyPost_ret (v := .agg #[.int .i64 3, .int .u64 0, .slice (some ⟨w.heap.size + 1, 0, none⟩) s.size c, .slice none 0 0]) (by simp [results, Tryz.results150, go_sem, z0, z1, z2, z3]) rfl ⟨_, rfl, RdI.mk_data (by decide) hc HS.out (Rd.mask_one ?_ (Nat.le_trans HLO.out (Nat.le_succ _))), ?_⟩
  · rw [hsz4, HZ.out]
    exact HRD.out.set4 (fun _ b o h => (by cases h; omega))
  · exact below_set4 (((Below.refl _ _).alloc (Nat.le_refl _) _).trans (HB.out.mono (Nat.le_succ _))) (Nat.le_refl _)
end Go.Proofs.YtlecbblmaadpiaaGreatDoor
