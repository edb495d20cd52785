/- The order of decimal digits: longer numerals are the greater ones, and of one length the later ones. -/
import Derived.Test.YtlecbblmaadpiaaGreatDoorJCborN
import Derived.Test.YtlecbblmaadpiaaGreatDoorJCrcS
import Derived.Test.YtlecbblmaadpiaaGreatDoorJMask
import Derived.Test.YtlecbblmaadpiaaGreatDoorJOwn
import Derived.BigCall
namespace Go.Proofs.YtlecbblmaadpiaaGreatDoor
open Go.RowKit
open Go.Lib (decDigits nDigits nDigits_small nDigits_big nDigits_pos decDigits_length)
end Go.Proofs.YtlecbblmaadpiaaGreatDoor
/- The plain mathematics of layer 3: what Encode and Decode answer, as a whole; greater numbers have greater heads. No program's number stands here. -/
namespace Go.Proofs.YtlecbblmaadpiaaGreatDoor
open Go.RowKit
/-! ### The whole -/
def Fits (x : Itm) : Prop := right x = true ∧ dep x ≤ 8 ∧ par x ≤ 4096
theorem enc_ok {x : Itm} (h : Fits x) : enc x = (wri x, 0) := by
  unfold enc
  rw [if_neg (by rw [h.1]; decide), if_neg (by have := h.2; omega)]
theorem decode_wr {x : Itm} (h : Fits x) (hs : Siz x) (m : List UInt8) : decode (wri x ++ m) = (x, ((wri x).length : Int), 0) := by
  unfold decode
  rw [dec_wr x 8 0 m h.1 hs h.2.1 (by have := h.2.2; omega)]
  simp
/-! ### Greater numbers -/
end Go.Proofs.YtlecbblmaadpiaaGreatDoor
/- The plain mathematics of layer 3: parts of lists of items. No program's number stands here. -/
namespace Go.Proofs.YtlecbblmaadpiaaGreatDoor
theorem deps_app : ∀ (a b : List Itm), deps (a ++ b) = max (deps a) (deps b)
  | [], b => by rw [deps]; simp
  | x :: r, b => by rw [List.cons_append, deps, deps, deps_app r b]; omega
theorem deps_take (l : List Itm) (j : Nat) (h : j < l.length) : deps (l.take (j + 1)) = max (deps (l.take j)) (dep (l[j]'h)) := by
  rw [List.take_succ_eq_append_getElem h, deps_app, deps, deps]
  omega
mutual
theorem dep_le : ∀ x : Itm, dep x ≤ par x
  | .mk k _ _ l => by have := deps_le l; rw [dep, par]; split <;> omega
theorem deps_le : ∀ l : List Itm, deps l ≤ pars l
  | [] => by rw [deps]; omega
  | x :: r => by have := dep_le x; have := deps_le r; rw [deps, pars]; omega
end
theorem pars_app : ∀ (a b : List Itm), pars (a ++ b) = pars a + pars b
  | [], b => by rw [pars]; simp
  | x :: r, b => by rw [List.cons_append, pars, pars, pars_app r b]; omega
theorem pars_take (l : List Itm) (j : Nat) (h : j < l.length) : pars (l.take (j + 1)) = pars (l.take j) + par (l[j]'h) := by
  rw [List.take_succ_eq_append_getElem h, pars_app, pars, pars]
  omega
theorem pars_le (l : List Itm) (j : Nat) : pars (l.take j) ≤ pars l := by
  conv => rhs; rw [← List.take_append_drop j l, pars_app]
  omega
theorem plain_take' (d : List UInt8) (k : Nat) (h : plain d = true) : plain (d.take k) = true := by
  unfold plain at *
  rw [List.all_eq_true] at *
  exact fun c hc => h c (List.mem_of_mem_take hc)
theorem plain_snoc (l : List UInt8) (x : UInt8) : plain (l ++ [x]) = (plain l && (decide (32 ≤ x.toNat) && decide (x.toNat ≤ 126))) := by
  unfold plain
  rw [List.all_append]
  simp
theorem plain_take_f (l : List UInt8) (k : Nat) (h : plain (l.take k) = false) : plain l = false := by
  rcases hb : plain l with _ | _
  · rfl
  · rw [plain_take' l k hb] at h; cases h
end Go.Proofs.YtlecbblmaadpiaaGreatDoor
/- What the reference of layer 3 returns: depth, parts, plain, size. -/
namespace Go.Proofs.YtlecbblmaadpiaaGreatDoor
open Go.RowKit
set_option maxRecDepth 100000 in
set_option maxHeartbeats 1000000 in
theorem rdepth_n : ∀ (m : Nat) (x : Itm) (v : Value) (w : World) (B : Nat), par x < m → par x ≤ 1000000 → B ≤ w.heap.size → RdI w B v x →
    Calls Tryz.prog 136 #[v] w fun e w' => e = .returned (.int .i64 (dep x : Int)) ∧ Below w.heap.size w w'
  | 0, _, _, _, _, h, _, _, _ => absurd h (Nat.not_lt_zero _)
  | m + 1, .mk k n d l, v, w, B, hm, hp, hB, h => by
    obtain ⟨A, nd, cd, AL, cl, rfl, h1, h2, h3, h4, h5, h7⟩ := h.open
    have IH := Lib.hid (rdepth_n m)
    have H7 := Lib.hid h7
    have H4 := Lib.hid h4
    clear h1 h7 h4 h
    generalize hL : l.length = N at *
    have HL := Lib.hid hL
    clear hL
    obtain ⟨DP, hDP⟩ : ∃ q, q = dep (.mk k n d l) := ⟨_, rfl⟩
    rw [← hDP]
    have HDP := Lib.hid hDP
    clear hDP
    go_enter Tryz.func136, Tryz.ntmps136
    go_wp2_with fail
    go_loopw [3, 4] (fun v i wr => ∃ j : Nat, j ≤ N ∧ i = .int .i64 j ∧ v = .int .i64 (deps (l.take j) : Int) ∧ Hid (Below (w.heap.size + 1) (w.alloc (.cells #[Value.int IntKind.i64 k, Value.int IntKind.u64 ↑n, Value.slice A nd cd, Value.slice AL N cl] 30)) wr))
      (fun _ i _ => N - (intOf i).toNat)
    case atStart => exact ⟨0, Nat.zero_le _, rfl, rfl, Below.refl _ _⟩
    case round =>
      obtain ⟨j, hj, rfl, rfl, hbel⟩ := hrel
      have hb0 : wr.cell? ⟨w.heap.size, 0, none⟩ = some (.int .i64 k) := (hbel.out.cell (p := ⟨w.heap.size, 0, none⟩) (by simp)).trans (by simp)
      have hb3 : wr.cell? ⟨w.heap.size, 3, none⟩ = some (.slice AL N cl) := (hbel.out.cell (p := ⟨w.heap.size, 3, none⟩) (by simp)).trans (by simp)
      by_cases hlt : j < N
      · obtain ⟨b, o, rfl, hb, hs⟩ := H7.out (by omega)
        obtain ⟨c0, c1, c2, c3, g0, g1, g2, g3, gx⟩ := hs.get j (by rw [HL.out]; exact hlt)
        have hs' : Below w.heap.size w wr := ((Below.refl _ _).alloc (Nat.le_refl _) _).trans (hbel.out.mono (by omega))
        have hsz : w.heap.size + 1 ≤ wr.heap.size := by have := hbel.out.size; simpa using this
        have e0 : wr.cell? ⟨b, o + j * 4, none⟩ = some c0 := (hs'.cell (p := ⟨b, o + j * 4, none⟩) (by show b < _; omega)).trans g0
        have e1 : wr.cell? ⟨b, o + j * 4 + 1, none⟩ = some c1 := (hs'.cell (p := ⟨b, o + j * 4 + 1, none⟩) (by show b < _; omega)).trans g1
        have e2 : wr.cell? ⟨b, o + j * 4 + 2, none⟩ = some c2 := (hs'.cell (p := ⟨b, o + j * 4 + 2, none⟩) (by show b < _; omega)).trans g2
        have e3 : wr.cell? ⟨b, o + j * 4 + 3, none⟩ = some c3 := (hs'.cell (p := ⟨b, o + j * 4 + 3, none⟩) (by show b < _; omega)).trans g3
        have GX := Lib.hid gx
        have HS := Lib.hid hs'
        have hpg : par (l[j]'(by rw [HL.out]; exact hlt)) ≤ pars l := par_get _
        rw [par] at hm hp
        have C1 := Lib.hid (IH.out (l[j]'(by rw [HL.out]; exact hlt)) _ wr B (by omega) (by omega) (by omega) (gx.below (hs'.mono hB)))
        clear g0 g1 g2 g3 gx hs hs'
        go_wp2_with fail
        refine C1.out.mono ?_
        rintro e w1 ⟨rfl, hb1⟩
        have HB1 := Lib.hid hb1
        clear hb1 hb0 hb3 e0 e1 e2 e3
        go_wp2_with fail
        go_roundw
        case rel =>
          refine ⟨j + 1, by omega, by go_num, ?_, hbel.out.trans (HB1.out.mono (by omega))⟩
          rw [deps_take l j (by rw [HL.out]; exact hlt)]
          congr 1
          omega
        case measure => simp [intOf]; omega
      · obtain rfl : j = N := by omega
        have HS := Lib.hid (((Below.refl w.heap.size w).alloc (Nat.le_refl _) _).trans (hbel.out.mono (by omega)))
        have hdl : deps (l.take j) = deps l := by rw [List.take_of_length_le (by rw [HL.out]; exact Nat.le_refl _)]
        have hdp := deps_le l
        rw [par] at hp
        have hDP := HDP.out
        rw [dep] at hDP
        rw [hdl]
        generalize deps l = D at *
        clear hdl
        by_cases hk : k = 4 ∨ k = 5
        · rw [if_pos hk] at hDP
          have HD2 := Lib.hid hDP
          clear hDP
          rcases hk with rfl | rfl
          · go_wp2_with fail
            go_ret
            exact ⟨by rw [HD2.out]; rfl, HS.out⟩
          · go_wp2_with fail
            go_ret
            exact ⟨by rw [HD2.out]; rfl, HS.out⟩
        · rw [if_neg hk] at hDP
          have HD2 := Lib.hid hDP
          clear hDP
          have k4 : (k == 4) = false := by simp; omega
          have k5 : (k == 5) = false := by simp; omega
          clear hk
          go_wp2_with fail
          go_ret
          exact ⟨by rw [HD2.out]; rfl, HS.out⟩
set_option maxRecDepth 100000 in
set_option maxHeartbeats 1000000 in
theorem rparts_n : ∀ (m : Nat) (x : Itm) (v : Value) (w : World) (B : Nat), par x < m → par x ≤ 1000000 → B ≤ w.heap.size → RdI w B v x →
    Calls Tryz.prog 137 #[v] w fun e w' => e = .returned (.int .i64 (par x : Int)) ∧ Below w.heap.size w w'
  | 0, _, _, _, _, h, _, _, _ => absurd h (Nat.not_lt_zero _)
  | m + 1, .mk k n d l, v, w, B, hm, hp, hB, h => by
    obtain ⟨A, nd, cd, AL, cl, rfl, h1, h2, h3, h4, h5, h7⟩ := h.open
    have IH := Lib.hid (rparts_n m)
    have H7 := Lib.hid h7
    have H4 := Lib.hid h4
    clear h1 h7 h4 h
    generalize hL : l.length = N at *
    have HL := Lib.hid hL
    clear hL
    obtain ⟨DP, hDP⟩ : ∃ q, q = par (.mk k n d l) := ⟨_, rfl⟩
    rw [← hDP]
    have HDP := Lib.hid hDP
    clear hDP
    go_enter Tryz.func137, Tryz.ntmps137
    go_wp2_with fail
    go_loopw [3, 4] (fun v i wr => ∃ j : Nat, j ≤ N ∧ i = .int .i64 j ∧ v = .int .i64 ((1 + pars (l.take j) : Nat) : Int) ∧ Hid (Below (w.heap.size + 1) (w.alloc (.cells #[Value.int IntKind.i64 k, Value.int IntKind.u64 ↑n, Value.slice A nd cd, Value.slice AL N cl] 30)) wr))
      (fun _ i _ => N - (intOf i).toNat)
    case atStart => exact ⟨0, Nat.zero_le _, rfl, rfl, Below.refl _ _⟩
    case round =>
      obtain ⟨j, hj, rfl, rfl, hbel⟩ := hrel
      have hb0 : wr.cell? ⟨w.heap.size, 0, none⟩ = some (.int .i64 k) := (hbel.out.cell (p := ⟨w.heap.size, 0, none⟩) (by simp)).trans (by simp)
      have hb3 : wr.cell? ⟨w.heap.size, 3, none⟩ = some (.slice AL N cl) := (hbel.out.cell (p := ⟨w.heap.size, 3, none⟩) (by simp)).trans (by simp)
      by_cases hlt : j < N
      · obtain ⟨b, o, rfl, hb, hs⟩ := H7.out (by omega)
        obtain ⟨c0, c1, c2, c3, g0, g1, g2, g3, gx⟩ := hs.get j (by rw [HL.out]; exact hlt)
        have hpt : pars (l.take j) ≤ pars l := pars_le l j
        have hs' : Below w.heap.size w wr := ((Below.refl _ _).alloc (Nat.le_refl _) _).trans (hbel.out.mono (by omega))
        have hsz : w.heap.size + 1 ≤ wr.heap.size := by have := hbel.out.size; simpa using this
        have e0 : wr.cell? ⟨b, o + j * 4, none⟩ = some c0 := (hs'.cell (p := ⟨b, o + j * 4, none⟩) (by show b < _; omega)).trans g0
        have e1 : wr.cell? ⟨b, o + j * 4 + 1, none⟩ = some c1 := (hs'.cell (p := ⟨b, o + j * 4 + 1, none⟩) (by show b < _; omega)).trans g1
        have e2 : wr.cell? ⟨b, o + j * 4 + 2, none⟩ = some c2 := (hs'.cell (p := ⟨b, o + j * 4 + 2, none⟩) (by show b < _; omega)).trans g2
        have e3 : wr.cell? ⟨b, o + j * 4 + 3, none⟩ = some c3 := (hs'.cell (p := ⟨b, o + j * 4 + 3, none⟩) (by show b < _; omega)).trans g3
        have GX := Lib.hid gx
        have HS := Lib.hid hs'
        have hpg : par (l[j]'(by rw [HL.out]; exact hlt)) ≤ pars l := par_get _
        rw [par] at hm hp
        have C1 := Lib.hid (IH.out (l[j]'(by rw [HL.out]; exact hlt)) _ wr B (by omega) (by omega) (by omega) (gx.below (hs'.mono hB)))
        clear g0 g1 g2 g3 gx hs hs'
        go_wp2_with fail
        refine C1.out.mono ?_
        rintro e w1 ⟨rfl, hb1⟩
        have HB1 := Lib.hid hb1
        clear hb1 hb0 hb3 e0 e1 e2 e3
        go_wp2_with fail
        go_roundw
        case rel =>
          refine ⟨j + 1, by omega, by go_num, ?_, hbel.out.trans (HB1.out.mono (by omega))⟩
          rw [pars_take l j (by rw [HL.out]; exact hlt)]
          congr 1
          omega
        case measure => simp [intOf]; omega
      · obtain rfl : j = N := by omega
        have HS := Lib.hid (((Below.refl w.heap.size w).alloc (Nat.le_refl _) _).trans (hbel.out.mono (by omega)))
        have hdl : pars (l.take j) = pars l := by rw [List.take_of_length_le (by rw [HL.out]; exact Nat.le_refl _)]
        have hDP := HDP.out
        rw [par] at hDP
        rw [hdl, ← hDP]
        clear hdl hDP
        go_wp2_with fail
        go_ret
        exact ⟨rfl, HS.out⟩
set_option maxRecDepth 100000 in
set_option maxHeartbeats 1000000 in
theorem rplain_any (A : Option Addr) (n c B : Nat) (l : List UInt8) (w : World) (h : Rd w B A n l) (hn : n ≤ 140737488355328) :
    Calls Tryz.prog 173 #[.slice A n c] w fun e w' => e = .returned (.bool (plain l)) ∧ w = w' := by
  have HR := Lib.hid h
  clear h
  obtain ⟨PL, hPL⟩ : ∃ q, q = plain l := ⟨_, rfl⟩
  rw [← hPL]
  have HPL := Lib.hid hPL
  clear hPL
  go_enter Tryz.func173, Tryz.ntmps173
  go_wp2
  go_loop [3] (fun i => ∃ k : Nat, k ≤ n ∧ i = .int .i64 k ∧ Hid (plain (l.take k) = true)) (fun i => n - (intOf i).toNat)
  case atStart => exact ⟨0, Nat.zero_le _, rfl, rfl⟩
  case round =>
    obtain ⟨k, hk, rfl, hp⟩ := hrel
    by_cases hlt : k < n
    · obtain ⟨b, o, rfl, hb, hcell⟩ := HR.out.2 (by omega)
      obtain ⟨x, hx⟩ : ∃ x, x = l.getD k 0 := ⟨_, rfl⟩
      have hcx : w.cell? ⟨b, o + k, none⟩ = some (.int .u8 (x.toNat : Int)) := by rw [hx]; exact hcell k hlt
      have hs : plain (l.take (k + 1)) = (decide (32 ≤ x.toNat) && decide (x.toNat ≤ 126)) := by
        rw [take_more l k (by have := HR.out.1; omega), plain_snoc, hp.out, ← hx]; rfl
      have HS := Lib.hid hs
      clear hx hcell hs
      obtain ⟨X, hX⟩ : ∃ X, X = x.toNat := ⟨_, rfl⟩
      rw [← hX] at hcx
      have HX := Lib.hid hX
      clear hX
      by_cases h32 : 32 ≤ X ∧ X ≤ 126
      · obtain ⟨h1, h2⟩ := h32
        go_wp2_with fail
        go_round
        case rel => exact ⟨k + 1, by omega, by go_num, by show _ = true; rw [HS.out, ← HX.out]; simp; omega⟩
        case measure => simp [intOf]; omega
      · have hf : plain l = false := plain_take_f l (k + 1) (by rw [HS.out, ← HX.out]; simp; omega)
        rw [← HPL.out] at hf
        subst hf
        by_cases h1 : X < 32
        · go_wp2_with fail
          go_ret
          exact ⟨rfl, rfl⟩
        · have h2 : 126 < X := by omega
          clear h32
          go_wp2_with fail
          go_ret
          exact ⟨rfl, rfl⟩
    · obtain rfl : k = n := by omega
      have e : plain l = true := by
        have := hp.out
        rwa [List.take_of_length_le (by have := HR.out.1; omega)] at this
      rw [← HPL.out] at e
      subst e
      go_wp2
      go_ret
      exact ⟨rfl, rfl⟩
theorem hsz_i (X : Int) (h0 : 0 ≤ X) : ((hsz X.toNat : Nat) : Int) = (if X < 24 then 0 else if X < 256 then 1 else if X < 65536 then 2 else if X < 4294967296 then 4 else 8) ∧
    ((hlow X.toNat : Nat) : Int) = (if X < 24 then X else if X < 256 then 24 else if X < 65536 then 25 else if X < 4294967296 then 26 else 27) := by
  unfold hsz hlow
  constructor <;> (repeat' (split <;> try omega))
set_option maxRecDepth 100000 in
set_option maxHeartbeats 1000000 in
theorem rsize_i (X S L : Int) (w : World) (h0 : 0 ≤ X) (hn : X < 18446744073709551616)
    (hS : S = (if X < 24 then 0 else if X < 256 then 1 else if X < 65536 then 2 else if X < 4294967296 then 4 else 8)) (hL : L = (if X < 24 then X else if X < 256 then 24 else if X < 65536 then 25 else if X < 4294967296 then 26 else 27)) :
    Calls Tryz.prog 111 #[.int .u64 X] w fun e w' => e = .returned (.tuple #[.int .i64 S, .int .i64 L]) ∧ w = w' := by
  by_cases h1 : X < 24
  · rw [if_pos h1] at hS hL
    subst hS hL
    go_enter Tryz.func111, Tryz.ntmps111
    go_wp2
    go_ret2
    exact ⟨rfl, rfl⟩
  by_cases h2 : X < 256
  · rw [if_neg h1, if_pos h2] at hS hL
    subst hS hL
    go_enter Tryz.func111, Tryz.ntmps111
    go_wp2
    go_ret2
    exact ⟨rfl, rfl⟩
  by_cases h3 : X < 65536
  · rw [if_neg h1, if_neg h2, if_pos h3] at hS hL
    subst hS hL
    go_enter Tryz.func111, Tryz.ntmps111
    go_wp2
    go_ret2
    exact ⟨rfl, rfl⟩
  by_cases h4 : X < 4294967296
  · rw [if_neg h1, if_neg h2, if_neg h3, if_pos h4] at hS hL
    subst hS hL
    go_enter Tryz.func111, Tryz.ntmps111
    go_wp2
    go_ret2
    exact ⟨rfl, rfl⟩
  rw [if_neg h1, if_neg h2, if_neg h3, if_neg h4] at hS hL
  subst hS hL
  go_enter Tryz.func111, Tryz.ntmps111
  go_wp2
  go_ret2
  exact ⟨rfl, rfl⟩
theorem rsize_any (n : Nat) (w : World) (hn : n < 18446744073709551616) :
    Calls Tryz.prog 111 #[.int .u64 (n : Int)] w fun e w' => e = .returned (.tuple #[.int .i64 (hsz n : Int), .int .i64 (hlow n : Int)]) ∧ w = w' := by
  have h := hsz_i (n : Int) (by omega)
  rw [Int.toNat_natCast] at h
  exact rsize_i (n : Int) _ _ w (by omega) (by omega) h.1 h.2
end Go.Proofs.YtlecbblmaadpiaaGreatDoor
/- The plain mathematics of layer 4: endpoints, their texts and items; two endpoints are two texts, and two items. No program's number stands here. -/
namespace Go.Proofs.YtlecbblmaadpiaaGreatDoor
open Go.Lib (decDigits)
structure Epd where
  scheme : Int
  name : List UInt8
  node : Nat
  service : Nat
def letterB (c : UInt8) : Bool := (decide (97 ≤ c.toNat) && decide (c.toNat ≤ 122)) || ((decide (48 ≤ c.toNat) && decide (c.toNat ≤ 57)) || (c == 46 || (c == 45 || c == 95)))
def lsB (c : UInt8) : Bool := c == 47 || letterB c
def toSlash (s : List UInt8) : Nat := (s.takeWhile fun c => c != 47).length
def nameB (s : List UInt8) : Bool :=
  decide (s.length ≤ 64) && (match s with
    | a :: b :: r => (a == 47 && b == 47) && (r.all lsB && (decide (1 ≤ toSlash r) && decide (toSlash r < r.length)))
    | _ => false)
def third (s : List UInt8) : Nat := 2 + toSlash (s.drop 2)
def noneB (e : Epd) : Bool := e.scheme == 1 && (e.name.isEmpty && (e.node == 0 && e.service == 0))
def checkB (e : Epd) : Bool :=
  if e.scheme = 1 then (e.node == 0 && e.service == 0) && (e.name.isEmpty || nameB e.name)
  else e.scheme == 2 && (e.name.isEmpty && (decide (0 < e.node) && (decide (e.node ≤ 4294967295) && decide (e.service ≤ 4294967295))))
def itemE (e : Epd) : Itm :=
  .mk 4 0 [] [.mk 0 e.scheme.toNat [] [], if e.scheme = 2 then .mk 4 0 [] [.mk 0 e.node [] [], .mk 0 e.service [] []] else if e.name = [] then .mk 0 0 [] [] else .mk 3 0 e.name []]
theorem check_dtn {e : Epd} (h : checkB e = true) (h1 : e.scheme = 1) : e.node = 0 ∧ e.service = 0 ∧ (e.name = [] ∨ nameB e.name = true) := by
  unfold checkB at h
  rw [if_pos h1] at h
  simp only [Bool.and_eq_true, Bool.or_eq_true, beq_iff_eq, List.isEmpty_iff] at h
  exact ⟨h.1.1, h.1.2, h.2⟩
theorem check_ipn {e : Epd} (h : checkB e = true) (h1 : e.scheme ≠ 1) : e.scheme = 2 ∧ e.name = [] ∧ 0 < e.node ∧ e.node ≤ 4294967295 ∧ e.service ≤ 4294967295 := by
  unfold checkB at h
  rw [if_neg h1] at h
  simp only [Bool.and_eq_true, beq_iff_eq, List.isEmpty_iff, decide_eq_true_eq] at h
  exact ⟨h.1, h.2.1, h.2.2.1, h.2.2.2.1, h.2.2.2.2⟩
theorem name_head {s : List UInt8} (h : nameB s = true) : ∃ r, s = 47 :: 47 :: r ∧ r.all lsB = true ∧ 1 ≤ toSlash r ∧ toSlash r < r.length ∧ s.length ≤ 64 := by
  unfold nameB at h
  match s, h with
  | [], h => simp at h
  | [_], h => simp at h
  | a :: b :: r, h =>
    simp only [Bool.and_eq_true, beq_iff_eq, decide_eq_true_eq] at h
    obtain ⟨h1, ⟨rfl, rfl⟩, h2, h3, h4⟩ := h
    exact ⟨r, rfl, h2, h3, h4, h1⟩
theorem epd_ext {a b : Epd} (h1 : a.scheme = b.scheme) (h2 : a.name = b.name) (h3 : a.node = b.node) (h4 : a.service = b.service) : a = b := by
  cases a; cases b; simp_all
theorem item_inj {a b : Epd} (ha : checkB a = true) (hb : checkB b = true) (h : itemE a = itemE b) : a = b := by
  unfold itemE at h
  simp only [Itm.mk.injEq, List.cons.injEq, and_true, true_and] at h
  obtain ⟨h1, h2⟩ := h
  by_cases a1 : a.scheme = 1
  · obtain ⟨an, ac, am⟩ := check_dtn ha a1
    by_cases b1 : b.scheme = 1
    · obtain ⟨bn, bs, bm⟩ := check_dtn hb b1
      have na : ¬ a.scheme = 2 := by omega
      have nb : ¬ b.scheme = 2 := by omega
      rw [if_neg na, if_neg nb] at h2
      refine epd_ext (a1.trans b1.symm) ?_ (an.trans bn.symm) (ac.trans bs.symm)
      by_cases a0 : a.name = []
      · by_cases b0 : b.name = []
        · rw [a0, b0]
        · rw [if_pos a0, if_neg b0] at h2; simp at h2
      · by_cases b0 : b.name = []
        · rw [if_neg a0, if_pos b0] at h2; simp at h2
        · rw [if_neg a0, if_neg b0] at h2; simpa using h2
    · obtain ⟨b2, _⟩ := check_ipn hb b1
      rw [a1, b2] at h1; simp at h1
  · obtain ⟨a2, an, _⟩ := check_ipn ha a1
    by_cases b1 : b.scheme = 1
    · rw [a2, b1] at h1; simp at h1
    · obtain ⟨b2, bn, _⟩ := check_ipn hb b1
      rw [if_pos a2, if_pos b2] at h2
      simp at h2
      exact epd_ext (a2.trans b2.symm) (an.trans bn.symm) h2.1 h2.2
end Go.Proofs.YtlecbblmaadpiaaGreatDoor
/- The plain mathematics of layer 3: an item gone through by a stack of lists. No program's number stands here. -/
namespace Go.Proofs.YtlecbblmaadpiaaGreatDoor
def rall : List (List Itm) → Bool | [] => true | l :: r => rights l && rall r
def sump : List (List Itm) → Nat | [] => 0 | l :: r => pars l + sump r
def lev : Nat → List (List Itm) → Nat | _, [] => 0 | i, l :: r => max (i + deps l) (lev (i + 1) r)
theorem rall_snoc : ∀ (a : List (List Itm)) (t : List Itm), rall (a ++ [t]) = (rall a && rights t)
  | [], t => by simp [rall]
  | l :: r, t => by rw [List.cons_append, rall, rall, rall_snoc r t, Bool.and_assoc]
theorem sump_snoc : ∀ (a : List (List Itm)) (t : List Itm), sump (a ++ [t]) = sump a + pars t
  | [], t => by simp [sump]
  | l :: r, t => by rw [List.cons_append, sump, sump, sump_snoc r t]; omega
theorem lev_snoc : ∀ (a : List (List Itm)) (t : List Itm) (i : Nat), lev i (a ++ [t]) = max (lev i a) (i + a.length + deps t)
  | [], t, i => by simp [lev]
  | l :: r, t, i => by rw [List.cons_append, lev, lev, lev_snoc r t, List.length_cons]; omega
structure ChkSt (x : Itm) (st : List (List Itm)) (p D : Nat) : Prop where
  rt : right x = rall st
  pr : par x = p + sump st
  dp : dep x = max D (lev 0 st)
  ln : st.length ≤ D + 1
  lp : st.length ≤ p + 1
theorem ChkSt.start (x : Itm) : ChkSt x [[x]] 0 0 := by
  refine ⟨?_, ?_, ?_, ?_, ?_⟩
  · simp [rall, rights]
  · simp [sump, pars]
  · simp [lev, deps]
  · simp
  · simp
theorem ChkSt.pop {x : Itm} {a : List (List Itm)} {p D : Nat} (h : ChkSt x (a ++ [[]]) p D) : ChkSt x a p D := by
  have h1 := h.rt
  have h2 := h.pr
  have h3 := h.dp
  have h4 := h.ln
  have h5 := h.lp
  rw [rall_snoc, rights, Bool.and_true] at h1
  rw [sump_snoc, pars] at h2
  rw [lev_snoc, deps] at h3
  rw [List.length_append, List.length_singleton] at h4 h5
  exact ⟨h1, by omega, by omega, by omega, by omega⟩
theorem ChkSt.bad {x : Itm} {a : List (List Itm)} {p D : Nat} {k : Int} {n : Nat} {d : List UInt8} {l r : List Itm} (h : ChkSt x (a ++ [.mk k n d l :: r]) p D) (ho : own k n d l = false) : right x = false := by
  rw [h.rt, rall_snoc, rights, right, ho]
  simp
theorem own_flat {k : Int} {n : Nat} {d : List UInt8} {l : List Itm} (h : own k n d l = true) (hk : ¬ (k = 4 ∨ k = 5)) : l = [] := by
  unfold own at h
  rw [if_neg hk] at h
  split at h
  · simp at h; exact h.2
  split at h
  · simp at h; exact h.2
  split at h
  · simp at h; exact h.2.1
  · cases h
theorem ChkSt.flat {x : Itm} {a : List (List Itm)} {p D : Nat} {k : Int} {n : Nat} {d : List UInt8} {l r : List Itm} (h : ChkSt x (a ++ [.mk k n d l :: r]) p D) (ho : own k n d l = true) (hk : ¬ (k = 4 ∨ k = 5)) : ChkSt x (a ++ [r]) (p + 1) D := by
  have hl := own_flat ho hk
  subst hl
  have h1 := h.rt
  have h2 := h.pr
  have h3 := h.dp
  have h4 := h.ln
  have h5 := h.lp
  rw [rall_snoc, rights, right, ho, rights, Bool.and_self, Bool.true_and] at h1
  rw [sump_snoc, pars, par, pars] at h2
  rw [lev_snoc, deps, dep, if_neg hk, deps] at h3
  rw [List.length_append, List.length_singleton] at h4 h5
  refine ⟨?_, ?_, ?_, ?_, ?_⟩
  · rw [h1, rall_snoc]
  · rw [sump_snoc]; omega
  · rw [lev_snoc]; omega
  · rw [List.length_append, List.length_singleton]; omega
  · rw [List.length_append, List.length_singleton]; omega
theorem ChkSt.arr {x : Itm} {a : List (List Itm)} {p D : Nat} {k : Int} {n : Nat} {d : List UInt8} {l r : List Itm} (h : ChkSt x (a ++ [.mk k n d l :: r]) p D) (ho : own k n d l = true) (hk : k = 4 ∨ k = 5) : ChkSt x (a ++ [r] ++ [l]) (p + 1) (max D (a.length + 1)) := by
  have h1 := h.rt
  have h2 := h.pr
  have h3 := h.dp
  have h4 := h.ln
  have h5 := h.lp
  rw [rall_snoc, rights, right, ho, Bool.true_and] at h1
  rw [sump_snoc, pars, par] at h2
  rw [lev_snoc, deps, dep, if_pos hk] at h3
  rw [List.length_append, List.length_singleton] at h4 h5
  refine ⟨?_, ?_, ?_, ?_, ?_⟩
  · rw [h1, rall_snoc, rall_snoc]
    cases rall a <;> cases rights r <;> cases rights l <;> rfl
  · rw [sump_snoc, sump_snoc]; omega
  · rw [lev_snoc, lev_snoc, List.length_append, List.length_singleton]; omega
  · rw [List.length_append, List.length_append, List.length_singleton, List.length_singleton]; omega
  · rw [List.length_append, List.length_append, List.length_singleton, List.length_singleton]; omega
theorem ChkSt.left {x : Itm} {a : List (List Itm)} {p D : Nat} {y : Itm} {r : List Itm} (h : ChkSt x (a ++ [y :: r]) p D) : p < par x ∧ D ≤ dep x ∧ a.length ≤ p := by
  have h2 := h.pr
  have h3 := h.dp
  have h5 := h.lp
  rw [sump_snoc, pars] at h2
  rw [List.length_append, List.length_singleton] at h5
  cases y with
  | mk k n d l =>
    rw [par] at h2
    omega
theorem ChkSt.done {x : Itm} {p D : Nat} (h : ChkSt x [] p D) : right x = true ∧ par x = p ∧ dep x = D := by
  have h1 := h.rt
  have h2 := h.pr
  have h3 := h.dp
  rw [rall] at h1
  rw [sump] at h2
  rw [lev] at h3
  exact ⟨h1, by omega, by omega⟩
end Go.Proofs.YtlecbblmaadpiaaGreatDoor
