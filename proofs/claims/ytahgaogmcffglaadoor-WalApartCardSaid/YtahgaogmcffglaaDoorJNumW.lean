/- Words for slices of bytes: a slice that reads as a list of bytes ('Rd'), a new row of bytes known whole ('Rb'), and the plain functions of layer 1: 'unhex', 'enc16', 'be', 'beNat'. No program's number stands here. -/
import Derived.WalkKit
import Derived.Below
import Derived.Deep.OwnRows
import Derived.Deep.Draws
import Derived.Laws.BytesArg
import Derived.Laws.AppendOwn
import Derived.Laws.NewBlocks
import Derived.Laws.IdiomStrings
import Derived.Lib.HexFns
import Derived.Lib.ItoaNum
import Derived.Lib.Hide
namespace Go.Proofs.YtahgaogmcffglaaDoor
open Go.RowKit

/-- The value of a cell that holds a byte. -/
def bv (x : UInt8) : Value := .int .u8 (x.toNat : Int)

/-- A slice with the address A and the length n reads as the bytes l; it lies below block B. -/
def Rd (w : World) (B : Nat) (A : Option Addr) (n : Nat) (l : List UInt8) : Prop :=
  l.length = n ∧ (0 < n → ∃ b o, A = some ⟨b, o, none⟩ ∧ b < B ∧ ∀ i, i < n → w.cell? ⟨b, o + i, none⟩ = some (.int .u8 ((l.getD i 0).toNat : Int)))

/-- Block b is a row of n bytes, none frozen, which begins with l and is noughts behind it. -/
def Rb (w : World) (b : Nat) (t : TypeId) (n : Nat) (l : List UInt8) : Prop := w.rowIs b t n (fun j => .int .u8 ((l.getD j 0).toNat : Int))

section
variable {w w' : World} {B B' n b : Nat} {A : Option Addr} {l : List UInt8} {t : TypeId}
theorem Rd.len (h : Rd w B A n l) : l.length = n := h.1
theorem Rd.keep (h : Rd w B A n l) (hk : ∀ p : Addr, p.block < B → w'.cell? p = w.cell? p) : Rd w' B A n l :=
  ⟨h.1, fun hn => by
    obtain ⟨b, o, e, hb, hc⟩ := h.2 hn
    exact ⟨b, o, e, hb, fun i hi => (hk ⟨b, o + i, none⟩ hb).trans (hc i hi)⟩⟩
theorem Rd.more (h : Rd w B A n l) (hB : B ≤ B') : Rd w B' A n l :=
  ⟨h.1, fun hn => by
    obtain ⟨b, o, e, hb, hc⟩ := h.2 hn
    exact ⟨b, o, e, by omega, hc⟩⟩
theorem Rd.below (h : Rd w B A n l) (hb : Below B w w') : Rd w' B A n l := h.keep fun _ hp => hb.cell hp
theorem Rd.drew (h : Rd w B A n l) : Rd w.drew B A n l := h
theorem Rd.drewN (h : Rd w B A n l) (k : Nat) : Rd (w.drewN k) B A n l := h
theorem Rd.alloc (h : Rd w B A n l) (hB : B ≤ w.heap.size) (o : Obj) : Rd (w.alloc o) B A n l := h.keep fun p hp => World.cell?_alloc_lt w o p (by omega)
theorem Rd.nil_ : Rd w B A 0 [] := ⟨rfl, fun h => absurd h (by omega)⟩
theorem Rb.drew (h : Rb w b t n l) : Rb w.drew b t n l := h
theorem Rb.alloc (h : Rb w b t n l) (o : Obj) : Rb (w.alloc o) b t n l := World.rowIs.alloc h o
theorem Rb.below (h : Rb w b t n l) (hb : Below B w w') (hB : b < B) : Rb w' b t n l := World.rowIs.of_block h (hb.block b hB)
theorem Rb.lt (h : Rb w b t n l) : b < w.heap.size := World.rowIs.lt h
theorem Rb.rd (h : Rb w b t n l) (hl : l.length = n) (hB : b < B) : Rd w B (some ⟨b, 0, none⟩) n l :=
  ⟨hl, fun _ => ⟨b, 0, rfl, hB, fun i hi => by rw [Nat.zero_add]; exact World.rowIs.cell h hi⟩⟩
theorem Rb.made (w : World) (n : Nat) (t : TypeId) : Rb (w.alloc (.cells (madeCells #[.int .u8 0] n) t)) w.heap.size t n [] := World.rowIs_made w _ n t
/-- A byte is put at the end of what is known. -/
theorem Rb.push (h : Rb w b t n l) (x : UInt8) {k : Nat} (hk : l.length = k) {v : Value} (hv : v = .int .u8 (x.toNat : Int)) : Rb (w.setCell ⟨b, k, none⟩ v) b t n (l ++ [x]) := by
  subst hk hv
  refine (World.rowIs.set h l.length _).congr fun j _ => ?_
  by_cases e : j = l.length
  · subst e; simp [List.getD]
  · simp only [if_neg e]
    congr 3
    rcases Nat.lt_or_ge j l.length with hl | hl
    · simp [List.getD, List.getElem?_append_left hl]
    · have h1 : l.length + 1 ≤ j := by omega
      simp [List.getD, List.getElem?_eq_none (l := l) hl, List.getElem?_append_right hl, List.getElem?_eq_none (l := [x]) (i := j - l.length) (by simp; omega)]
end

/-- A call gives back a slice that reads as l, and leaves what was there. -/
def Gives (l : List UInt8) (w : World) (e : Ending) (w' : World) : Prop :=
  ∃ (A : Option Addr) (n c : Nat), e = .returned (.slice A n c) ∧ Rd w' w'.heap.size A n l ∧ n ≤ c ∧ Below w.heap.size w w'

/-- 'string(b)', b whatever slice of bytes. -/
theorem run_str {P : Program} {w : World} {B : Nat} {A : Option Addr} {n c : Nat} {l : List UInt8} (h : Rd w B A n l) (src e dst : TypeId) (hs : P.underlying src = some (.slice e)) (he : P.underlying e = some (.int .u8)) (hd : P.underlying dst = some .string) :
    (convert src dst (.slice A n c)).run P w = .ok (.string ⟨l.toArray⟩) w := by
  rcases Nat.eq_zero_or_pos n with h0 | h0
  · subst h0
    have hl : l = [] := List.eq_nil_of_length_eq_zero h.1
    subst hl
    cases A with
    | none => exact run_convert_bytes_nil (P := P) w src e hs he 0 c dst hd
    | some a =>
      rw [run_convert_bytes_string w src dst e _ 0 c hs he hd, run_bytesToString w a 0 c [] (by
        have := run_loadCells_list (P := P) w a [] (fun j v hj => by simp at hj)
        simpa using this)]
      rfl
  · obtain ⟨b, o, rfl, _, hc⟩ := h.2 h0
    have hlen := h.1
    have g := run_convert_bytes_arg (P := P) w src e hs he b o n c (l.map fun x => (x.toNat : Int)) (by simpa using hlen) (fun i hi => by
      rw [hc i hi]
      have hi' : i < l.length := by omega
      simp [List.getD, hi']) dst hd
    rw [g]
    congr 2
    unfold strOfNums
    congr 2
    rw [List.map_map]
    conv => rhs; rw [← List.map_id l]
    apply List.map_congr_left
    intro x _
    simp

/-- A cut 'b[k:]'. -/
theorem Rd.cut {w : World} {B n k : Nat} {A : Option Addr} {l : List UInt8} (h : Rd w B A n l) : Rd w B (A.map (·.add k)) (n - k) (l.drop k) := by
  refine ⟨by rw [List.length_drop, h.1], fun hn => ?_⟩
  obtain ⟨b, o, rfl, hb, hc⟩ := h.2 (by omega)
  refine ⟨b, o + k, by unfold Addr.add; simp, hb, fun i hi => ?_⟩
  rw [Nat.add_assoc, hc (k + i) (by omega)]
  simp [List.getD, List.getElem?_drop]

/-- 'b[k:]' as an operation: some address, some capacity. -/
theorem cut_l {P : Program} {w : World} {B n : Nat} {A : Option Addr} {l : List UInt8} (t e : TypeId) (ht : P.underlying t = some (.slice e)) (hz : ∀ W : World, (sizeOf e).run P W = .ok 1 W) (c : Nat) (h : Rd w B A n l) (x : Int) (k : Nat) (hx : x = (k : Int)) (hk : k ≤ n) (hc : n ≤ c) :
    ∃ A' c', (∀ W : World, (Instr.slice t (.slice A n c) (some (.int .i64 x)) none none).run P W = .ok (.slice A' (n - k) c') W) ∧ n - k ≤ c' ∧ c' ≤ c ∧ Rd w B A' (n - k) (l.drop k) := by
  subst hx
  by_cases hck : c = k
  · refine ⟨A, c - k, fun W => ?_, by omega, by omega, ?_⟩
    · subst hck
      go_simp
    · have hl := h.1
      have e : n - k = 0 := by omega
      rw [e, List.drop_eq_nil_of_le (by omega)]
      exact Rd.nil_
  · refine ⟨A.map (·.add k), c - k, fun W => ?_, by omega, by omega, h.cut⟩
    go_simp

/-- 'b[:k]' as an operation. -/
theorem Rd.take {w : World} {B n k : Nat} {A : Option Addr} {l : List UInt8} (h : Rd w B A n l) (hk : k ≤ n) : Rd w B A k (l.take k) := by
  have hl := h.1
  refine ⟨by rw [List.length_take]; omega, fun hn => ?_⟩
  obtain ⟨b, o, e, hb, hc⟩ := h.2 (by omega)
  refine ⟨b, o, e, hb, fun i hi => ?_⟩
  rw [hc i (by omega)]
  simp [List.getD, hi]
theorem cut_h {P : Program} {w : World} {B n : Nat} {A : Option Addr} {l : List UInt8} (t e : TypeId) (ht : P.underlying t = some (.slice e)) (hz : ∀ W : World, (sizeOf e).run P W = .ok 1 W) (c : Nat) (h : Rd w B A n l) (x : Int) (k : Nat) (hx : x = (k : Int)) (hk : k ≤ n) (hc : n ≤ c) :
    ∃ A' c', (∀ W : World, (Instr.slice t (.slice A n c) none (some (.int .i64 x)) none).run P W = .ok (.slice A' k c') W) ∧ k ≤ c' ∧ c' ≤ c ∧ Rd w B A' k (l.take k) := by
  subst hx
  by_cases hc0 : c = 0
  · have hk0 : k = 0 := by omega
    subst hk0 hc0
    refine ⟨A, 0, fun W => ?_, by omega, by omega, h.take hk⟩
    go_simp
  · refine ⟨A, c, fun W => ?_, by omega, by omega, h.take hk⟩
    go_simp
    intro h
    omega

/-- 'a[k:]' of an array of N one-cell elements at the head of a block. -/
theorem sliceAt_l {P : Program} (t e : TypeId) (N : Nat) (ht : P.underlying t = some (.array (P.arrayLen t) (P.elem t))) (hN : P.arrayLen t = N) (he : P.elem t = e) (hz : ∀ W : World, (sizeOf e).run P W = .ok 1 W) (b f : Nat) (x : Int) (hx : x = (f : Int)) (hf : f < N) (W : World) :
    (Instr.sliceAt t (.pointer (some ⟨b, 0, none⟩)) (some (.int .i64 x)) none none).run P W = .ok (.slice (some ⟨b, f, none⟩) (N - f) (N - f)) W := by
  subst hx
  rw [run_sliceAt_array_l W t ⟨b, 0, none⟩ ht .i64 (f : Int) (by omega) (by omega), he, hz, hN]
  have hne : ¬ N = f := by omega
  by_cases h0 : f = 0
  · subst h0
    simp [Result.andThen, slicedAt, Addr.add]
  · simp [Result.andThen, slicedAt, Addr.add, hne, h0]

/-- A piece of a row of bytes. -/
theorem rowIs_rd {w : World} {B b N f n : Nat} {t : TypeId} {F : Nat → Value} {l : List UInt8} (h : w.rowIs b t N F) (hl : l.length = n) (hn : f + n ≤ N) (hB : b < B) (hF : ∀ i, i < n → F (f + i) = .int .u8 ((l.getD i 0).toNat : Int)) :
    Rd w B (some ⟨b, f, none⟩) n l :=
  ⟨hl, fun _ => ⟨b, f, rfl, hB, fun i hi => by rw [h.cell (by omega), hF i hi]⟩⟩

/-- A literal slice of bytes, new, in block g; whatever mark the block bears. -/
theorem Rd.litm (w : World) (g : Nat) (hg : w.heap.size = g) (l : List UInt8) (t : TypeId) (cs : Array Value) (fr : Nat × Nat) (hcs : cs = (l.map fun x => Value.int .u8 (x.toNat : Int)).toArray) (n : Nat) (hn : l.length = n) : Rd (w.alloc (.cells cs t fr)) (g + 1) (some ⟨g, 0, none⟩) n l := by
  subst hcs hg
  refine ⟨hn, fun _ => ⟨_, 0, rfl, by omega, fun i hi => ?_⟩⟩
  have hi' : i < l.length := by omega
  rw [Nat.zero_add, World.cell?_alloc_mark]
  simp [List.getD, hi']
theorem Rd.lit (w : World) (g : Nat) (hg : w.heap.size = g) (l : List UInt8) (t : TypeId) (cs : Array Value) (hcs : cs = (l.map fun x => Value.int .u8 (x.toNat : Int)).toArray) (n : Nat) (hn : l.length = n) : Rd (w.alloc (.cells cs t)) (g + 1) (some ⟨g, 0, none⟩) n l :=
  Rd.litm w g hg l t cs _ hcs n hn

theorem wf_u8 {n : Int} (h : (Lit.int .u8 n).wf = true) : 0 ≤ n ∧ n < 256 := by
  simp [Lit.wf, IntKind.min, IntKind.max, IntKind.signed, IntKind.bits] at h
  omega

/-- A slice of bytes that came in. -/
theorem Rd.of_ints {w : World} {x : Addr} {n c : Nat} {zs : List Int} (hn : n ≤ c) (hz : zs.length = c) (hcell : ∀ i, i < zs.length → w.cell? (x.add i) = some (.int .u8 (zs.getD i 0))) (hw : ∀ z ∈ zs, (Lit.int .u8 z).wf = true) :
    Rd w w.heap.size (some x) n ((zs.take n).map fun z => UInt8.ofNat z.toNat) := by
  refine ⟨by simp; omega, fun h0 => ?_⟩
  obtain ⟨b, off, spot⟩ := x
  have hc := hcell 0 (by omega)
  have hspot : spot = none := by simpa [Addr.add] using World.cell?_spot hc
  subst hspot
  refine ⟨b, off, rfl, ?_, fun i hi => ?_⟩
  · have h := World.block_lt_of_cell? w _ hc
    simpa [Addr.add] using h
  · have hi' : i < zs.length := by omega
    have h := hcell i hi'
    have e : (⟨b, off, none⟩ : Addr).add i = ⟨b, off + i, none⟩ := by unfold Addr.add; split <;> simp_all
    rw [e] at h
    rw [h]
    have hb := wf_u8 (hw _ (List.getElem_mem hi'))
    simp [List.getD, hi, hi']
    omega

/-! ### The plain functions -/

/-- Is it one of the 16 digits? -/
def isH (c : Int) : Bool := decide (48 ≤ c ∧ c ≤ 57) || decide (97 ≤ c ∧ c ≤ 102)
/-- Its number. -/
def hv (c : Int) : Int := if 48 ≤ c ∧ c ≤ 57 then c - 48 else if 97 ≤ c ∧ c ≤ 102 then c - 87 else 0
theorem hv_bd (c : Int) : 0 ≤ hv c ∧ hv c < 16 := by unfold hv; split <;> (try split) <;> omega

/-- The bytes of digits of 16. -/
def unhex : List UInt8 → Option (List UInt8)
  | [] => some []
  | [_] => none
  | a :: b :: t => if isH (a.toNat : Int) && isH (b.toNat : Int) then (unhex t).map (UInt8.ofNat (hv (a.toNat : Int) * 16 + hv (b.toNat : Int)).toNat :: ·) else none

theorem or_fin : ∀ (a b : Fin 16), bits BinOp.or IntKind.u8 ((a.val : Int) * 16) (b.val : Int) = ((a.val * 16 + b.val : Nat) : Int) := by decide +kernel
/-- Two digits put together, as the walk has it. -/
theorem or_hv (x y : Int) : Value.int .u8 (bits BinOp.or IntKind.u8 (hv x * 16) (hv y)) = .int .u8 ((UInt8.ofNat (hv x * 16 + hv y).toNat).toNat : Int) := by
  have hx := hv_bd x
  have hy := hv_bd y
  obtain ⟨a, ha⟩ := Int.eq_ofNat_of_zero_le hx.1
  obtain ⟨b, hb⟩ := Int.eq_ofNat_of_zero_le hy.1
  rw [ha, hb]
  have h := or_fin ⟨a, by omega⟩ ⟨b, by omega⟩
  simp only at h
  rw [h, UInt8.toNat_ofNat', show ((a : Int) * 16 + (b : Int)).toNat = a * 16 + b by omega, Nat.mod_eq_of_lt (by omega)]

theorem drop_two (L : List UInt8) (k : Nat) (x y : UInt8) (hx : L[2 * k]? = some x) (hy : L[2 * k + 1]? = some y) : L.drop (2 * k) = x :: y :: L.drop (2 * (k + 1)) := by
  have h1 : 2 * k < L.length := by
    rcases Nat.lt_or_ge (2 * k) L.length with h | h
    · exact h
    · rw [List.getElem?_eq_none h] at hx; cases hx
  have h2 : 2 * k + 1 < L.length := by
    rcases Nat.lt_or_ge (2 * k + 1) L.length with h | h
    · exact h
    · rw [List.getElem?_eq_none h] at hy; cases hy
  rw [List.drop_eq_getElem_cons h1, List.drop_eq_getElem_cons h2]
  rw [List.getElem?_eq_getElem h1] at hx
  rw [List.getElem?_eq_getElem h2] at hy
  cases hx; cases hy; rfl

theorem unhex_step {L pre : List UInt8} {k : Nat} {x y : UInt8} (h : unhex L = (unhex (L.drop (2 * k))).map (pre ++ ·)) (hx : L[2 * k]? = some x) (hy : L[2 * k + 1]? = some y)
    (ex : isH (x.toNat : Int) = true) (ey : isH (y.toNat : Int) = true) :
    unhex L = (unhex (L.drop (2 * (k + 1)))).map ((pre ++ [UInt8.ofNat (hv (x.toNat : Int) * 16 + hv (y.toNat : Int)).toNat]) ++ ·) := by
  rw [h, drop_two L k x y hx hy, unhex, ex, ey]
  cases unhex (L.drop (2 * (k + 1))) <;> simp

theorem unhex_bad {L pre : List UInt8} {k : Nat} {x y : UInt8} (h : unhex L = (unhex (L.drop (2 * k))).map (pre ++ ·)) (hx : L[2 * k]? = some x) (hy : L[2 * k + 1]? = some y)
    (e : (isH (x.toNat : Int) && isH (y.toNat : Int)) = false) : unhex L = none := by
  rw [h, drop_two L k x y hx hy, unhex, e]
  rfl

theorem unhex_len : ∀ (L : List UInt8) (l : List UInt8), unhex L = some l → L.length = 2 * l.length
  | [], l, h => by cases h; rfl
  | [_], _, h => by cases h
  | a :: b :: t, l, h => by
    rw [unhex] at h
    split at h
    · obtain ⟨r, hr, e⟩ := Option.map_eq_some_iff.1 h
      subst e
      have := unhex_len t r hr
      simp; omega
    · cases h

theorem take_more (l : List UInt8) (k : Nat) (h : k < l.length) : l.take (k + 1) = l.take k ++ [l.getD k 0] := by
  rw [List.take_succ_eq_append_getElem h]
  simp [List.getD, h]
/-- As a string's bytes are indexed. -/
theorem str_at (s : ByteArray) (i : Nat) (h : i < s.size) : s.data.toList[i]? = some s[i] := by
  rw [List.getElem?_eq_getElem (by simpa using h)]; rfl

/-- The lowest n bytes of x, the highest first. -/
def be (x : Nat) (n : Nat) : List UInt8 := (List.range n).map fun j => UInt8.ofNat (x / 256 ^ (n - 1 - j))
theorem be_length (x n : Nat) : (be x n).length = n := by simp [be]
/-- The number of bytes, the highest first, modulo 2^64. -/
def beNat (l : List UInt8) : Nat := l.foldl (fun a x => (a * 256 + x.toNat) % 18446744073709551616) 0
end Go.Proofs.YtahgaogmcffglaaDoor
