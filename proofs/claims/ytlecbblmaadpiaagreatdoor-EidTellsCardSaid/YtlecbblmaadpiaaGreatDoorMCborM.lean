/- Words for slices of bytes: a slice that reads as a list of bytes ('Rd'), a new row of bytes known whole ('Rb'), and the plain functions of layer 1: 'unhex', 'enc16', 'be', 'beNat'. No program's number stands here. -/
import Derived.WalkKit
import Derived.Below
import Derived.Deep.OwnRows
import Derived.Deep.Draws
import Derived.Laws.BytesArg
import Derived.Laws.AppendOwn
import Derived.Laws.NewBlocks
import Derived.Laws.IdiomStrings
import Derived.Lib.HexFns
import Derived.Lib.ItoaNum
import Derived.Lib.Hide
import Derived.Laws.BitsAllLaws
import Derived.Lib.EndianBits
import Derived.Test.YtlecbblmaadpiaaGreatDoorRows
import Derived.WalkLawsBesides
import Derived.BigGuardPart
import Derived.BigQuiet
import Derived.Deep.QuietTactic
import Derived.Deep.DeepFit
import Derived.Deep.DeepCutAuto
import Derived.Outline
import Derived.Lib.Walk
import Derived.Lib.Strings
import Derived.Lib.SlBytesConst
import Derived.BigCall
import Derived.BigGuard
import Derived.Laws.Strings3
namespace Go.Proofs.YtlecbblmaadpiaaGreatDoor
open Go.RowKit
def bv (x : UInt8) : Value := .int .u8 (x.toNat : Int)
def Rd (w : World) (B : Nat) (A : Option Addr) (n : Nat) (l : List UInt8) : Prop :=
  l.length = n ∧ (0 < n → ∃ b o, A = some ⟨b, o, none⟩ ∧ b < B ∧ ∀ i, i < n → w.cell? ⟨b, o + i, none⟩ = some (.int .u8 ((l.getD i 0).toNat : Int)))
def Rb (w : World) (b : Nat) (t : TypeId) (n : Nat) (l : List UInt8) : Prop := w.rowIs b t n (fun j => .int .u8 ((l.getD j 0).toNat : Int))
section
variable {w w' : World} {B B' n b : Nat} {A : Option Addr} {l : List UInt8} {t : TypeId}
theorem Rd.len (h : Rd w B A n l) : l.length = n := h.1
theorem Rd.keep (h : Rd w B A n l) (hk : ∀ p : Addr, p.block < B → w'.cell? p = w.cell? p) : Rd w' B A n l :=
  ⟨h.1, fun hn => by
    obtain ⟨b, o, e, hb, hc⟩ := h.2 hn
    exact ⟨b, o, e, hb, fun i hi => (hk ⟨b, o + i, none⟩ hb).trans (hc i hi)⟩⟩
theorem Rd.more (h : Rd w B A n l) (hB : B ≤ B') : Rd w B' A n l :=
  ⟨h.1, fun hn => by
    obtain ⟨b, o, e, hb, hc⟩ := h.2 hn
    exact ⟨b, o, e, by omega, hc⟩⟩
theorem Rd.below (h : Rd w B A n l) (hb : Below B w w') : Rd w' B A n l := h.keep fun _ hp => hb.cell hp
theorem Rd.drew (h : Rd w B A n l) : Rd w.drew B A n l := h
theorem Rd.drewN (h : Rd w B A n l) (k : Nat) : Rd (w.drewN k) B A n l := h
theorem Rd.alloc (h : Rd w B A n l) (hB : B ≤ w.heap.size) (o : Obj) : Rd (w.alloc o) B A n l := h.keep fun p hp => World.cell?_alloc_lt w o p (by omega)
theorem Rd.nil_ : Rd w B A 0 [] := ⟨rfl, fun h => absurd h (by omega)⟩
theorem Rb.drew (h : Rb w b t n l) : Rb w.drew b t n l := h
theorem Rb.alloc (h : Rb w b t n l) (o : Obj) : Rb (w.alloc o) b t n l := World.rowIs.alloc h o
theorem Rb.below (h : Rb w b t n l) (hb : Below B w w') (hB : b < B) : Rb w' b t n l := World.rowIs.of_block h (hb.block b hB)
theorem Rb.lt (h : Rb w b t n l) : b < w.heap.size := World.rowIs.lt h
theorem Rb.rd (h : Rb w b t n l) (hl : l.length = n) (hB : b < B) : Rd w B (some ⟨b, 0, none⟩) n l :=
  ⟨hl, fun _ => ⟨b, 0, rfl, hB, fun i hi => by rw [Nat.zero_add]; exact World.rowIs.cell h hi⟩⟩
theorem Rb.made (w : World) (n : Nat) (t : TypeId) : Rb (w.alloc (.cells (madeCells #[.int .u8 0] n) t)) w.heap.size t n [] := World.rowIs_made w _ n t
theorem Rb.push (h : Rb w b t n l) (x : UInt8) {k : Nat} (hk : l.length = k) {v : Value} (hv : v = .int .u8 (x.toNat : Int)) : Rb (w.setCell ⟨b, k, none⟩ v) b t n (l ++ [x]) := by
  subst hk hv
  refine (World.rowIs.set h l.length _).congr fun j _ => ?_
  by_cases e : j = l.length
  · subst e; simp [List.getD]
  · simp only [if_neg e]
    congr 3
    rcases Nat.lt_or_ge j l.length with hl | hl
    · simp [List.getD, List.getElem?_append_left hl]
    · have h1 : l.length + 1 ≤ j := by omega
      simp [List.getD, List.getElem?_eq_none (l := l) hl, List.getElem?_append_right hl, List.getElem?_eq_none (l := [x]) (i := j - l.length) (by simp; omega)]
end
theorem run_str {P : Program} {w : World} {B : Nat} {A : Option Addr} {n c : Nat} {l : List UInt8} (h : Rd w B A n l) (src e dst : TypeId) (hs : P.underlying src = some (.slice e)) (he : P.underlying e = some (.int .u8)) (hd : P.underlying dst = some .string) :
    (convert src dst (.slice A n c)).run P w = .ok (.string ⟨l.toArray⟩) w := by
  rcases Nat.eq_zero_or_pos n with h0 | h0
  · subst h0
    have hl : l = [] := List.eq_nil_of_length_eq_zero h.1
    subst hl
    cases A with
    | none => exact run_convert_bytes_nil (P := P) w src e hs he 0 c dst hd
    | some a =>
      rw [run_convert_bytes_string w src dst e _ 0 c hs he hd, run_bytesToString w a 0 c [] (by
        have := run_loadCells_list (P := P) w a [] (fun j v hj => by simp at hj)
        simpa using this)]
      rfl
  · obtain ⟨b, o, rfl, _, hc⟩ := h.2 h0
    have hlen := h.1
    have g := run_convert_bytes_arg (P := P) w src e hs he b o n c (l.map fun x => (x.toNat : Int)) (by simpa using hlen) (fun i hi => by
      rw [hc i hi]
      have hi' : i < l.length := by omega
      simp [List.getD, hi']) dst hd
    rw [g]
    congr 2
    unfold strOfNums
    congr 2
    rw [List.map_map]
    conv => rhs; rw [← List.map_id l]
    apply List.map_congr_left
    intro x _
    simp
theorem Rd.cut {w : World} {B n k : Nat} {A : Option Addr} {l : List UInt8} (h : Rd w B A n l) : Rd w B (A.map (·.add k)) (n - k) (l.drop k) := by
  refine ⟨by rw [List.length_drop, h.1], fun hn => ?_⟩
  obtain ⟨b, o, rfl, hb, hc⟩ := h.2 (by omega)
  refine ⟨b, o + k, by unfold Addr.add; simp, hb, fun i hi => ?_⟩
  rw [Nat.add_assoc, hc (k + i) (by omega)]
  simp [List.getD, List.getElem?_drop]
theorem Rd.take {w : World} {B n k : Nat} {A : Option Addr} {l : List UInt8} (h : Rd w B A n l) (hk : k ≤ n) : Rd w B A k (l.take k) := by
  have hl := h.1
  refine ⟨by rw [List.length_take]; omega, fun hn => ?_⟩
  obtain ⟨b, o, e, hb, hc⟩ := h.2 (by omega)
  refine ⟨b, o, e, hb, fun i hi => ?_⟩
  rw [hc i (by omega)]
  simp [List.getD, hi]
theorem sliceAt_l {P : Program} (t e : TypeId) (N : Nat) (ht : P.underlying t = some (.array (P.arrayLen t) (P.elem t))) (hN : P.arrayLen t = N) (he : P.elem t = e) (hz : ∀ W : World, (sizeOf e).run P W = .ok 1 W) (b f : Nat) (x : Int) (hx : x = (f : Int)) (hf : f < N) (W : World) :
    (Instr.sliceAt t (.pointer (some ⟨b, 0, none⟩)) (some (.int .i64 x)) none none).run P W = .ok (.slice (some ⟨b, f, none⟩) (N - f) (N - f)) W := by
  subst hx
  rw [run_sliceAt_array_l W t ⟨b, 0, none⟩ ht .i64 (f : Int) (by omega) (by omega), he, hz, hN]
  have hne : ¬ N = f := by omega
  by_cases h0 : f = 0
  · subst h0
    simp [Result.andThen, slicedAt, Addr.add]
  · simp [Result.andThen, slicedAt, Addr.add, hne, h0]
theorem rowIs_rd {w : World} {B b N f n : Nat} {t : TypeId} {F : Nat → Value} {l : List UInt8} (h : w.rowIs b t N F) (hl : l.length = n) (hn : f + n ≤ N) (hB : b < B) (hF : ∀ i, i < n → F (f + i) = .int .u8 ((l.getD i 0).toNat : Int)) :
    Rd w B (some ⟨b, f, none⟩) n l :=
  ⟨hl, fun _ => ⟨b, f, rfl, hB, fun i hi => by rw [h.cell (by omega), hF i hi]⟩⟩
theorem Rd.litm (w : World) (g : Nat) (hg : w.heap.size = g) (l : List UInt8) (t : TypeId) (cs : Array Value) (fr : Nat × Nat) (hcs : cs = (l.map fun x => Value.int .u8 (x.toNat : Int)).toArray) (n : Nat) (hn : l.length = n) : Rd (w.alloc (.cells cs t fr)) (g + 1) (some ⟨g, 0, none⟩) n l := by
  subst hcs hg
  refine ⟨hn, fun _ => ⟨_, 0, rfl, by omega, fun i hi => ?_⟩⟩
  have hi' : i < l.length := by omega
  rw [Nat.zero_add, World.cell?_alloc_mark]
  simp [List.getD, hi']
theorem Rd.lit (w : World) (g : Nat) (hg : w.heap.size = g) (l : List UInt8) (t : TypeId) (cs : Array Value) (hcs : cs = (l.map fun x => Value.int .u8 (x.toNat : Int)).toArray) (n : Nat) (hn : l.length = n) : Rd (w.alloc (.cells cs t)) (g + 1) (some ⟨g, 0, none⟩) n l :=
  Rd.litm w g hg l t cs _ hcs n hn
theorem wf_u8 {n : Int} (h : (Lit.int .u8 n).wf = true) : 0 ≤ n ∧ n < 256 := by
  simp [Lit.wf, IntKind.min, IntKind.max, IntKind.signed, IntKind.bits] at h
  omega
theorem Rd.of_ints {w : World} {x : Addr} {n c : Nat} {zs : List Int} (hn : n ≤ c) (hz : zs.length = c) (hcell : ∀ i, i < zs.length → w.cell? (x.add i) = some (.int .u8 (zs.getD i 0))) (hw : ∀ z ∈ zs, (Lit.int .u8 z).wf = true) :
    Rd w w.heap.size (some x) n ((zs.take n).map fun z => UInt8.ofNat z.toNat) := by
  refine ⟨by simp; omega, fun h0 => ?_⟩
  obtain ⟨b, off, spot⟩ := x
  have hc := hcell 0 (by omega)
  have hspot : spot = none := by simpa [Addr.add] using World.cell?_spot hc
  subst hspot
  refine ⟨b, off, rfl, ?_, fun i hi => ?_⟩
  · have h := World.block_lt_of_cell? w _ hc
    simpa [Addr.add] using h
  · have hi' : i < zs.length := by omega
    have h := hcell i hi'
    have e : (⟨b, off, none⟩ : Addr).add i = ⟨b, off + i, none⟩ := by unfold Addr.add; split <;> simp_all
    rw [e] at h
    rw [h]
    have hb := wf_u8 (hw _ (List.getElem_mem hi'))
    simp [List.getD, hi, hi']
    omega
/-! ### The plain functions -/
def hv (c : Int) : Int := if 48 ≤ c ∧ c ≤ 57 then c - 48 else if 97 ≤ c ∧ c ≤ 102 then c - 87 else 0
def be (x : Nat) (n : Nat) : List UInt8 := (List.range n).map fun j => UInt8.ofNat (x / 256 ^ (n - 1 - j))
theorem be_length (x n : Nat) : (be x n).length = n := by simp [be]
def beNat (l : List UInt8) : Nat := l.foldl (fun a x => (a * 256 + x.toNat) % 18446744073709551616) 0
end Go.Proofs.YtlecbblmaadpiaaGreatDoor
/- Bytes as numbers, the highest first: the plain mathematics of Put and Get. No program's number stands here. -/
namespace Go.Proofs.YtlecbblmaadpiaaGreatDoor
open Go.RowKit
theorem beNat_snoc (l : List UInt8) (x : UInt8) : beNat (l ++ [x]) = (beNat l * 256 + x.toNat) % 18446744073709551616 := by
  unfold beNat
  rw [List.foldl_append]
  rfl
theorem be_succ (x n : Nat) : be x (n + 1) = be (x / 256) n ++ [UInt8.ofNat x] := by
  unfold be
  rw [List.range_succ, List.map_append]
  congr 1
  · refine List.map_congr_left fun j hj => ?_
    have hj' : j < n := List.mem_range.1 hj
    rw [show n + 1 - 1 - j = (n - 1 - j) + 1 by omega, Nat.pow_succ, Nat.mul_comm, ← Nat.div_div_eq_div_mul]
  · simp
theorem beNat_be : ∀ (n x : Nat), n ≤ 8 → beNat (be x n) = x % 256 ^ n
  | 0, x, _ => by simp [be, beNat, Nat.mod_one]
  | n + 1, x, h => by
    have hp : 256 ^ (n + 1) ≤ 256 ^ 8 := Nat.pow_le_pow_right (by decide) h
    rw [be_succ, beNat_snoc, beNat_be n (x / 256) (by omega), UInt8.toNat_ofNat']
    have e : x % 256 ^ (n + 1) = x / 256 % 256 ^ n * 256 + x % 256 := by
      rw [Nat.pow_succ, Nat.mul_comm, Nat.mod_mul]
      omega
    have hlt : x % 256 ^ (n + 1) < 256 ^ (n + 1) := Nat.mod_lt _ (Nat.pow_pos (by decide))
    rw [show (2 : Nat) ^ 8 = 256 from rfl, ← e]
    exact Nat.mod_eq_of_lt (Nat.lt_of_lt_of_le hlt hp)
theorem beNat_lt (l : List UInt8) : beNat l < 18446744073709551616 := by
  rcases List.eq_nil_or_concat l with rfl | ⟨r, x, rfl⟩
  · decide
  · rw [List.concat_eq_append, beNat_snoc]; exact Nat.mod_lt _ (by decide)
theorem beNat_bd : ∀ (n : Nat) (l : List UInt8), l.length = n → n ≤ 8 → beNat l < 256 ^ n
  | 0, l, h, _ => by obtain rfl := List.eq_nil_of_length_eq_zero h; decide
  | n + 1, l, h, h8 => by
    rcases List.eq_nil_or_concat l with rfl | ⟨r, x, rfl⟩
    · simp at h
    · have hr : r.length = n := by simpa using h
      have ih := beNat_bd n r hr (by omega)
      have hx := x.toNat_lt
      have hp : 256 ^ (n + 1) ≤ 256 ^ 8 := Nat.pow_le_pow_right (by decide) h8
      have e : 256 ^ (n + 1) = 256 ^ n * 256 := Nat.pow_succ ..
      rw [List.concat_eq_append, beNat_snoc, Nat.mod_eq_of_lt (by omega)]
      omega
theorem be_beNat : ∀ (n : Nat) (l : List UInt8), l.length = n → n ≤ 8 → be (beNat l) n = l
  | 0, l, h, _ => by obtain rfl := List.eq_nil_of_length_eq_zero h; rfl
  | n + 1, l, h, h8 => by
    rcases List.eq_nil_or_concat l with rfl | ⟨r, x, rfl⟩
    · simp at h
    · have hr : r.length = n := by simpa using h
      have ih := beNat_bd n r hr (by omega)
      have hx := x.toNat_lt
      have hp : 256 ^ (n + 1) ≤ 256 ^ 8 := Nat.pow_le_pow_right (by decide) h8
      have e : 256 ^ (n + 1) = 256 ^ n * 256 := Nat.pow_succ ..
      rw [List.concat_eq_append, beNat_snoc, Nat.mod_eq_of_lt (by omega), be_succ, show (beNat r * 256 + x.toNat) / 256 = beNat r by omega, be_beNat n r hr (by omega)]
      congr 2
      apply UInt8.toNat_inj.1
      rw [UInt8.toNat_ofNat']
      omega
end Go.Proofs.YtlecbblmaadpiaaGreatDoor
/- The plain mathematics of layer 3: items, the bytes that they are, and how bytes are read. No program's number stands here. -/
namespace Go.Proofs.YtlecbblmaadpiaaGreatDoor
inductive Itm where
  | mk (kind : Int) (n : Nat) (data : List UInt8) (list : List Itm)
namespace Itm
def kind : Itm → Int | mk k _ _ _ => k
def num : Itm → Nat | mk _ n _ _ => n
def data : Itm → List UInt8 | mk _ _ d _ => d
def list : Itm → List Itm | mk _ _ _ l => l
def zero : Itm := mk 0 0 [] []
end Itm
def hsz (n : Nat) : Nat := if n < 24 then 0 else if n < 256 then 1 else if n < 65536 then 2 else if n < 4294967296 then 4 else 8
def hlow (n : Nat) : Nat := if n < 24 then n else if n < 256 then 24 else if n < 65536 then 25 else if n < 4294967296 then 26 else 27
def hd (m n : Nat) : List UInt8 := UInt8.ofNat (32 * m + hlow n) :: be n (hsz n)
def plain (d : List UInt8) : Bool := d.all fun c => decide (32 ≤ c.toNat) && decide (c.toNat ≤ 126)
def own (k : Int) (n : Nat) (d : List UInt8) (l : List Itm) : Bool :=
  if k = 0 then d.isEmpty && l.isEmpty else if k = 2 then n == 0 && l.isEmpty else if k = 3 then n == 0 && (l.isEmpty && plain d) else if k = 4 ∨ k = 5 then n == 0 && d.isEmpty else false
mutual
def right : Itm → Bool | .mk k n d l => own k n d l && rights l
def rights : List Itm → Bool | [] => true | x :: r => right x && rights r
end
mutual
def dep : Itm → Nat | .mk k _ _ l => deps l + if k = 4 ∨ k = 5 then 1 else 0
def deps : List Itm → Nat | [] => 0 | x :: r => max (dep x) (deps r)
end
mutual
def par : Itm → Nat | .mk _ _ _ l => 1 + pars l
def pars : List Itm → Nat | [] => 0 | x :: r => par x + pars r
end
mutual
def wri : Itm → List UInt8
  | .mk k n d l => if k = 0 then hd 0 n else if k = 2 ∨ k = 3 then hd k.toNat d.length ++ d else if k = 4 then hd 4 l.length ++ wrs l else 0x9f :: (wrs l ++ [0xff])
def wrs : List Itm → List UInt8 | [] => [] | x :: r => wri x ++ wrs r
end
mutual
def Siz : Itm → Prop | .mk _ n d l => n < 18446744073709551616 ∧ d.length < 18446744073709551616 ∧ l.length < 18446744073709551616 ∧ Sizs l
def Sizs : List Itm → Prop | [] => True | x :: r => Siz x ∧ Sizs r
end
def enc (x : Itm) : List UInt8 × Int := if right x = false then ([], 2) else if 8 < dep x ∨ 4096 < par x then ([], 32) else (wri x, 0)
/-! ### How bytes are read -/
def headD : List UInt8 → Except Int (Nat × Nat × List UInt8)
  | [] => .error 30
  | c :: r =>
    if (c.toNat / 32 ≠ 0 ∧ c.toNat / 32 ≠ 2 ∧ c.toNat / 32 ≠ 3 ∧ c.toNat / 32 ≠ 4) ∨ 27 < c.toNat % 32 then .error 31
    else if c.toNat % 32 < 24 then .ok (c.toNat / 32, c.toNat % 32, r)
    else if r.length < 2 ^ (c.toNat % 32 - 24) then .error 30
    else if hsz (beNat (r.take (2 ^ (c.toNat % 32 - 24)))) ≠ 2 ^ (c.toNat % 32 - 24) then .error 31
    else .ok (c.toNat / 32, beNat (r.take (2 ^ (c.toNat % 32 - 24))), r.drop (2 ^ (c.toNat % 32 - 24)))
def textD (m n p : Nat) (r : List UInt8) : Except Int (Itm × Nat × List UInt8) :=
  if m = 3 ∧ plain (r.take n) = false then .error 31 else if r.length < n then .error 30 else .ok (.mk m 0 (r.take n) [], p, r.drop n)
def many (sub : Nat → List UInt8 → Except Int (Itm × Nat × List UInt8)) : Nat → Nat → List UInt8 → Except Int (List Itm × Nat × List UInt8)
  | 0, p, l => .ok ([], p, l)
  | n + 1, p, l => match sub p l with
    | .error e => .error e
    | .ok (x, p1, l1) => match many sub n p1 l1 with
      | .error e => .error e
      | .ok (xs, p2, l2) => .ok (x :: xs, p2, l2)
def endl (sub : Nat → List UInt8 → Except Int (Itm × Nat × List UInt8)) : Nat → Nat → List UInt8 → Except Int (List Itm × Nat × List UInt8)
  | 0, _, _ => .error 30
  | _ + 1, _, [] => .error 30
  | f + 1, p, c :: r => if c = 0xff then .ok ([], p, r) else match sub p (c :: r) with
    | .error e => .error e
    | .ok (x, p1, l1) => match endl sub f p1 l1 with
      | .error e => .error e
      | .ok (xs, p2, l2) => .ok (x :: xs, p2, l2)
def arrB (c : UInt8) : Bool := c == 0x9f || (c.toNat / 32 == 4 && decide (c.toNat % 32 ≤ 27))
def itemD (sub : Nat → List UInt8 → Except Int (Itm × Nat × List UInt8)) (deep : Bool) (p : Nat) : List UInt8 → Except Int (Itm × Nat × List UInt8)
  | [] => .error 30
  | c :: r =>
    if p = 4096 ∨ (arrB c = true ∧ deep = true) then .error 32
    else if c = 0x9f then match endl sub (r.length + 1) (p + 1) r with
      | .error e => .error e
      | .ok (xs, p2, l2) => .ok (.mk 5 0 [] xs, p2, l2)
    else match headD (c :: r) with
      | .error e => .error e
      | .ok (m, n, r') => if m = 0 then .ok (.mk 0 n [] [], p + 1, r') else if m = 4 then (match many sub n (p + 1) r' with
          | .error e => .error e
          | .ok (xs, p2, l2) => .ok (.mk 4 0 [] xs, p2, l2)) else textD m n (p + 1) r'
def dec : Nat → Nat → List UInt8 → Except Int (Itm × Nat × List UInt8)
  | 0 => itemD (fun _ _ => .error 32) true
  | d + 1 => itemD (dec d) false
def decode (l : List UInt8) : Itm × Int × Int := match dec 8 0 l with | .error e => (.zero, 0, e) | .ok (x, _, r) => (x, (l.length - r.length : Nat), 0)
/-! ### Heads -/
theorem hsz_low (n : Nat) : 24 ≤ n → hsz n = 2 ^ (hlow n - 24) ∧ 24 ≤ hlow n ∧ hlow n ≤ 27 := by
  intro h
  unfold hsz hlow
  repeat' (split <;> try omega)
  all_goals (refine ⟨by decide, by omega, by omega⟩)
theorem hsz_le (n : Nat) : hsz n ≤ 8 := by unfold hsz; repeat' (split <;> try omega)
theorem hlow_le (n : Nat) : hlow n ≤ 27 := by unfold hlow; repeat' (split <;> try omega)
theorem hsz_bd (n : Nat) (h : n < 18446744073709551616) : 24 ≤ n → n < 256 ^ hsz n := by
  intro h24
  unfold hsz
  repeat' split
  all_goals omega
theorem hd_len (m n : Nat) : (hd m n).length = hsz n + 1 := by simp [hd, be_length]
theorem byte_nat (v : Nat) (h : v < 256) : (UInt8.ofNat v).toNat = v := by rw [UInt8.toNat_ofNat']; exact Nat.mod_eq_of_lt h
theorem hd_first (m n : Nat) (hm : m ≤ 4) : (UInt8.ofNat (32 * m + hlow n)).toNat / 32 = m ∧ (UInt8.ofNat (32 * m + hlow n)).toNat % 32 = hlow n := by
  have := hlow_le n
  rw [byte_nat _ (by omega)]
  omega
theorem headD_hd (m n : Nat) (r : List UInt8) (hm : m = 0 ∨ m = 2 ∨ m = 3 ∨ m = 4) (hn : n < 18446744073709551616) : headD (hd m n ++ r) = .ok (m, n, r) := by
  have h27 := hlow_le n
  obtain ⟨h1, h2⟩ := hd_first m n (by omega)
  unfold hd
  rw [List.cons_append, headD, h1, h2, if_neg (by omega)]
  by_cases h24 : n < 24
  · have e : hlow n = n := by unfold hlow; rw [if_pos h24]
    have e0 : hsz n = 0 := by unfold hsz; rw [if_pos h24]
    rw [e, if_pos h24, e0]
    rfl
  · obtain ⟨e, e1, e2⟩ := hsz_low n (by omega)
    have hlen := be_length n (hsz n)
    have ht : (be n (hsz n) ++ r).take (hsz n) = be n (hsz n) := by rw [List.take_left' hlen]
    have hb : beNat (be n (hsz n)) = n := by rw [beNat_be _ _ (hsz_le n)]; exact Nat.mod_eq_of_lt (hsz_bd n hn (by omega))
    rw [if_neg (by omega), ← e, if_neg (by simp [hlen]), ht, hb, if_neg (by simp), List.drop_left' hlen]
theorem headD_ok {l r : List UInt8} {m n : Nat} (h : headD l = .ok (m, n, r)) : l = hd m n ++ r ∧ n < 18446744073709551616 ∧ (m = 0 ∨ m = 2 ∨ m = 3 ∨ m = 4) := by
  cases l with
  | nil => simp [headD] at h
  | cons c t =>
    have hc := c.toNat_lt
    rw [headD] at h
    split at h
    · cases h
    next h1 =>
    split at h
    next h2 =>
      cases h
      refine ⟨?_, by omega, by omega⟩
      unfold hd
      have e : hlow (c.toNat % 32) = c.toNat % 32 := by unfold hlow; rw [if_pos h2]
      have e0 : hsz (c.toNat % 32) = 0 := by unfold hsz; rw [if_pos h2]
      rw [e, e0, show 32 * (c.toNat / 32) + c.toNat % 32 = c.toNat by omega]
      simp [be]
    next h2 =>
    split at h
    · cases h
    next h3 =>
    split at h
    · cases h
    next h4 =>
    cases h
    have hk : 2 ^ (c.toNat % 32 - 24) ≤ 8 := by
      have : c.toNat % 32 - 24 ≤ 3 := by omega
      calc 2 ^ (c.toNat % 32 - 24) ≤ 2 ^ 3 := Nat.pow_le_pow_right (by decide) this
        _ = 8 := rfl
    have hlen : (t.take (2 ^ (c.toNat % 32 - 24))).length = 2 ^ (c.toNat % 32 - 24) := by rw [List.length_take]; omega
    have h4' : hsz (beNat (t.take (2 ^ (c.toNat % 32 - 24)))) = 2 ^ (c.toNat % 32 - 24) := by simpa using h4
    have hb := be_beNat _ _ hlen hk
    have hlt := beNat_lt (t.take (2 ^ (c.toNat % 32 - 24)))
    generalize hN : beNat (t.take (2 ^ (c.toNat % 32 - 24))) = N at *
    have hp : 0 < 2 ^ (c.toNat % 32 - 24) := Nat.pow_pos (by decide)
    have h24 : 24 ≤ N := by
      rcases Nat.lt_or_ge N 24 with hh | hh
      · unfold hsz at h4'; rw [if_pos hh] at h4'; omega
      · exact hh
    obtain ⟨e, e1, e2⟩ := hsz_low N h24
    have hlo : hlow N = c.toNat % 32 := by
      have h5 := e.symm.trans h4'
      have := (Nat.pow_right_inj (a := 2) (by decide)).1 h5
      omega
    refine ⟨?_, hlt, by omega⟩
    unfold hd
    rw [hlo, h4', hb, show 32 * (c.toNat / 32) + c.toNat % 32 = c.toNat by omega]
    simp
theorem headD_short (m n : Nat) (hm : m = 0 ∨ m = 2 ∨ m = 3 ∨ m = 4) (cut : Nat) (h1 : cut < (hd m n).length) : headD ((hd m n).take cut) = .error 30 := by
  rw [hd_len] at h1
  cases cut with
  | zero => rfl
  | succ j =>
    have h27 := hlow_le n
    obtain ⟨f1, f2⟩ := hd_first m n (by omega)
    have h24 : 24 ≤ n := by
      rcases Nat.lt_or_ge n 24 with hh | hh
      · unfold hsz at h1; rw [if_pos hh] at h1; omega
      · exact hh
    obtain ⟨e, e1, e2⟩ := hsz_low n h24
    unfold hd
    rw [List.take_succ_cons, headD, f1, f2, if_neg (by omega), if_neg (by omega), ← e, if_pos (by rw [List.length_take, be_length]; omega)]
end Go.Proofs.YtlecbblmaadpiaaGreatDoor
/- What every text of this seat begins with: the words for bytes, and what is asked of the type of a byte. -/
namespace Go.Proofs.YtlecbblmaadpiaaGreatDoor
open Go.RowKit
theorem info_u8 : (Tryz.prog.info? 5).map (fun i => (i.zero, i.size, i.bytes)) = some (some (.int .u8 0), 1, 1) := by kernel_rfl
theorem size_u8 (W : World) : (sizeOf 5).run Tryz.prog W = .ok 1 W := by kernel_rfl
end Go.Proofs.YtlecbblmaadpiaaGreatDoor
/- '[]byte(s)' of a string that is no constant: a new slice that reads as its bytes. -/
namespace Go.Proofs.YtlecbblmaadpiaaGreatDoor
open Go.RowKit
theorem conv_bytes (W : World) (s : ByteArray) : ∃ (c : Nat) (W' : World), (convert 9 27 (.string s)).run Tryz.prog W = .ok (.slice (some ⟨W.heap.size, 0, none⟩) s.size c) W' ∧
    Rd W' (W.heap.size + 1) (some ⟨W.heap.size, 0, none⟩) s.size s.data.toList ∧ s.size ≤ c ∧ Below W.heap.size W W' ∧ W'.heap.size = W.heap.size + 1 := by
  refine ⟨_, _, run_bytes_of_string W _ _ 5 s Tryz.underlying9 Tryz.underlying27 Tryz.underlying5, ⟨by simp, fun _ => ⟨_, 0, rfl, Nat.lt_succ_self _, fun i hi => ?_⟩⟩, ?_, ?_, ?_⟩
  · rw [Nat.zero_add]
    have h := World.cell?_alloc_mark W.drew (bytesRow s (grownCap W s.size 0 5)) 5 ((bytesRow s (grownCap W s.size 0 5)).size, (bytesRow s (grownCap W s.size 0 5)).size + 1) i
    refine Eq.trans h ?_
    have hi' : i < s.data.size := hi
    unfold bytesRow
    rw [Array.getElem?_append_left (by simpa using hi')]
    simp only [Array.getElem?_map, Array.getElem?_eq_getElem hi', Option.map_some, List.getD, Array.getElem?_toList, Option.getD_some]
  · exact grownCap_ge W s.size 0 _
  · exact ((Below.refl W.heap.size W).drew).alloc (Nat.le_refl _) _
  · simp
end Go.Proofs.YtlecbblmaadpiaaGreatDoor
/- What Get returns: the number of the last eight bytes. -/
namespace Go.Proofs.YtlecbblmaadpiaaGreatDoor
open Go.RowKit
end Go.Proofs.YtlecbblmaadpiaaGreatDoor
