/- Items in memory: a value that reads as an item ('RdI'), the elements of a list that do ('RdIs'). -/
import Derived.Test.YtmcflcihldmidaaDoorJCborM
import Derived.Test.YtmcflcihldmidaaDoorJNumG
import Derived.ChangeSame
import Derived.ChangeShapes
import Derived.ChangeArms
import Derived.Deep.Slices
namespace Go.Proofs.YtmcflcihldmidaaDoor
open Go.RowKit

mutual
/-- The value v reads as the item x; what it leads to lies below block B. -/
def RdI (w : World) (B : Nat) (v : Value) : Itm → Prop
  | .mk k n d l => ∃ (A : Option Addr) (nd cd : Nat) (AL : Option Addr) (nl cl : Nat), v = .agg #[.int .i64 k, .int .u64 (n : Int), .slice A nd cd, .slice AL nl cl] ∧
      (Lit.int .i64 k).wf = true ∧ n < 18446744073709551616 ∧ (nd ≤ cd ∧ nd ≤ 140737488355328) ∧ Rd w B A nd d ∧ (nl ≤ cl ∧ nl ≤ 140737488355328) ∧ l.length = nl ∧ (0 < nl → ∃ b o, AL = some ⟨b, o, none⟩ ∧ b < B ∧ RdIs w B b o l)
/-- From the place o of block b on the items l lie, four cells each. -/
def RdIs (w : World) (B b o : Nat) : List Itm → Prop
  | [] => True
  | x :: r => (∃ c0 c1 c2 c3 : Value, w.cell? ⟨b, o, none⟩ = some c0 ∧ w.cell? ⟨b, o + 1, none⟩ = some c1 ∧ w.cell? ⟨b, o + 2, none⟩ = some c2 ∧ w.cell? ⟨b, o + 3, none⟩ = some c3 ∧ RdI w B (.agg #[c0, c1, c2, c3]) x) ∧ RdIs w B b (o + 4) r
end

mutual
theorem RdI.keep {w w' : World} {B : Nat} (hk : ∀ p : Addr, p.block < B → w'.cell? p = w.cell? p) : ∀ {x : Itm} {v : Value}, RdI w B v x → RdI w' B v x
  | .mk k n d l, v, h => by
    rw [RdI] at h ⊢
    obtain ⟨A, nd, cd, AL, nl, cl, e, h1, h2, h3, h4, h5, h6, h7⟩ := h
    refine ⟨A, nd, cd, AL, nl, cl, e, h1, h2, h3, h4.keep hk, h5, h6, fun h0 => ?_⟩
    obtain ⟨b, o, ea, hb, hs⟩ := h7 h0
    exact ⟨b, o, ea, hb, RdIs.keep hk hb hs⟩
theorem RdIs.keep {w w' : World} {B : Nat} (hk : ∀ p : Addr, p.block < B → w'.cell? p = w.cell? p) {b : Nat} (hb : b < B) : ∀ {l : List Itm} {o : Nat}, RdIs w B b o l → RdIs w' B b o l
  | [], o, _ => by rw [RdIs]; trivial
  | x :: r, o, h => by
    rw [RdIs] at h ⊢
    obtain ⟨⟨c0, c1, c2, c3, g0, g1, g2, g3, gx⟩, hr⟩ := h
    exact ⟨⟨c0, c1, c2, c3, (hk ⟨b, o, none⟩ hb).trans g0, (hk ⟨b, o + 1, none⟩ hb).trans g1, (hk ⟨b, o + 2, none⟩ hb).trans g2, (hk ⟨b, o + 3, none⟩ hb).trans g3, RdI.keep hk gx⟩, RdIs.keep hk hb hr⟩
end
mutual
theorem RdI.more {w : World} {B B' : Nat} (hB : B ≤ B') : ∀ {x : Itm} {v : Value}, RdI w B v x → RdI w B' v x
  | .mk k n d l, v, h => by
    rw [RdI] at h ⊢
    obtain ⟨A, nd, cd, AL, nl, cl, e, h1, h2, h3, h4, h5, h6, h7⟩ := h
    refine ⟨A, nd, cd, AL, nl, cl, e, h1, h2, h3, h4.more hB, h5, h6, fun h0 => ?_⟩
    obtain ⟨b, o, ea, hb, hs⟩ := h7 h0
    exact ⟨b, o, ea, by omega, RdIs.more hB hs⟩
theorem RdIs.more {w : World} {B B' : Nat} (hB : B ≤ B') {b : Nat} : ∀ {l : List Itm} {o : Nat}, RdIs w B b o l → RdIs w B' b o l
  | [], o, _ => by rw [RdIs]; trivial
  | x :: r, o, h => by
    rw [RdIs] at h ⊢
    obtain ⟨⟨c0, c1, c2, c3, g0, g1, g2, g3, gx⟩, hr⟩ := h
    exact ⟨⟨c0, c1, c2, c3, g0, g1, g2, g3, RdI.more hB gx⟩, RdIs.more hB hr⟩
end
section
variable {w w' : World} {B B' b : Nat} {v : Value} {x : Itm} {l : List Itm} {o : Nat}
theorem RdI.below (h : RdI w B v x) (hb : Below B w w') : RdI w' B v x := h.keep fun _ hp => hb.cell hp
theorem RdIs.below (h : RdIs w B b o l) (h0 : b < B) (hb : Below B w w') : RdIs w' B b o l := h.keep (fun _ hp => hb.cell hp) h0
theorem RdI.alloc (h : RdI w B v x) (hB : B ≤ w.heap.size) (ob : Obj) : RdI (w.alloc ob) B v x := h.keep fun p hp => World.cell?_alloc_lt w ob p (by omega)
/-- The items of a list: the i-th. -/
theorem RdIs.get : ∀ {l : List Itm} {o : Nat}, RdIs w B b o l → ∀ i (hi : i < l.length), ∃ c0 c1 c2 c3 : Value, w.cell? ⟨b, o + i * 4, none⟩ = some c0 ∧ w.cell? ⟨b, o + i * 4 + 1, none⟩ = some c1 ∧ w.cell? ⟨b, o + i * 4 + 2, none⟩ = some c2 ∧ w.cell? ⟨b, o + i * 4 + 3, none⟩ = some c3 ∧ RdI w B (.agg #[c0, c1, c2, c3]) (l[i]'hi)
  | [], o, _, i, hi => absurd hi (Nat.not_lt_zero _)
  | x :: r, o, h, 0, hi => by
    rw [RdIs] at h
    simpa using h.1
  | x :: r, o, h, i + 1, hi => by
    rw [RdIs] at h
    have := RdIs.get h.2 i (by simpa using hi)
    rw [show o + (i + 1) * 4 = o + 4 + i * 4 by omega]
    simpa using this
theorem RdIs.of_get : ∀ {l : List Itm} {o : Nat}, (∀ i (hi : i < l.length), ∃ c0 c1 c2 c3 : Value, w.cell? ⟨b, o + i * 4, none⟩ = some c0 ∧ w.cell? ⟨b, o + i * 4 + 1, none⟩ = some c1 ∧ w.cell? ⟨b, o + i * 4 + 2, none⟩ = some c2 ∧ w.cell? ⟨b, o + i * 4 + 3, none⟩ = some c3 ∧ RdI w B (.agg #[c0, c1, c2, c3]) (l[i]'hi)) → RdIs w B b o l
  | [], o, _ => by rw [RdIs]; trivial
  | x :: r, o, h => by
    rw [RdIs]
    have h0 := h 0 (by simp)
    rw [Nat.zero_mul, Nat.add_zero] at h0
    refine ⟨h0, RdIs.of_get fun i hi => ?_⟩
    have := h (i + 1) (by simpa using hi)
    rw [show o + (i + 1) * 4 = o + 4 + i * 4 by omega] at this
    simpa using this
end
/-- An item's list, as a walk wants it. -/
theorem RdI.open {w : World} {B : Nat} {v : Value} {k : Int} {n : Nat} {d : List UInt8} {l : List Itm} (h : RdI w B v (.mk k n d l)) :
    ∃ (A : Option Addr) (nd cd : Nat) (AL : Option Addr) (cl : Nat), v = .agg #[.int .i64 k, .int .u64 (n : Int), .slice A nd cd, .slice AL l.length cl] ∧
      (Lit.int .i64 k).wf = true ∧ n < 18446744073709551616 ∧ (nd ≤ cd ∧ nd ≤ 140737488355328) ∧ Rd w B A nd d ∧ (l.length ≤ cl ∧ l.length ≤ 140737488355328) ∧ (0 < l.length → ∃ b o, AL = some ⟨b, o, none⟩ ∧ b < B ∧ RdIs w B b o l) := by
  rw [RdI] at h
  obtain ⟨A, nd, cd, AL, nl, cl, e, h1, h2, h3, h4, h5, h6, h7⟩ := h
  subst h6
  exact ⟨A, nd, cd, AL, cl, e, h1, h2, h3, h4, h5, h7⟩
theorem RdI.form {w : World} {B : Nat} {v : Value} {x : Itm} (h : RdI w B v x) : ∃ (k : Int) (n : Nat) (A : Option Addr) (nd cd : Nat) (AL : Option Addr) (nl cl : Nat), v = .agg #[.int .i64 k, .int .u64 (n : Int), .slice A nd cd, .slice AL nl cl] := by
  obtain ⟨k, n, d, l⟩ := x
  obtain ⟨A, nd, cd, AL, cl, rfl, -, -, -, -, -, -⟩ := h.open
  exact ⟨_, _, _, _, _, _, _, _, rfl⟩
theorem par_get : ∀ {l : List Itm} {i : Nat} (hi : i < l.length), par (l[i]'hi) ≤ pars l
  | [], _, hi => absurd hi (Nat.not_lt_zero _)
  | x :: r, 0, _ => by rw [pars]; simp
  | x :: r, i + 1, hi => by
    have := par_get (l := r) (i := i) (by simpa using hi)
    rw [pars]
    simp
    omega
mutual
theorem RdI.siz {w : World} {B : Nat} : ∀ {x : Itm} {v : Value}, RdI w B v x → Siz x
  | .mk k n d l, v, h => by
    rw [RdI] at h
    obtain ⟨A, nd, cd, AL, nl, cl, e, h1, h2, h3, h4, h5, h6, h7⟩ := h
    have hd := h4.1
    refine ⟨h2, by omega, by omega, ?_⟩
    rcases Nat.eq_zero_or_pos nl with h0 | h0
    · have : l = [] := List.eq_nil_of_length_eq_zero (by omega)
      subst this; trivial
    · obtain ⟨b, o, ea, hb, hs⟩ := h7 h0
      exact RdIs.siz hs
theorem RdIs.siz {w : World} {B b : Nat} : ∀ {l : List Itm} {o : Nat}, RdIs w B b o l → Sizs l
  | [], _, _ => trivial
  | x :: r, o, h => by
    rw [RdIs] at h
    obtain ⟨⟨c0, c1, c2, c3, g0, g1, g2, g3, gx⟩, hr⟩ := h
    exact ⟨RdI.siz gx, RdIs.siz hr⟩
end
end Go.Proofs.YtmcflcihldmidaaDoor
/- Items that come in as arguments: a reading of one is an item in memory, no greater than the reading's bulk. -/
namespace Go.Proofs.YtmcflcihldmidaaDoor
open Go.RowKit Go.ChangeShapes Go.WideShapes Go.Deep

mutual
/-- How much an item holds. -/
def mass : Itm → Nat | .mk _ _ d l => 1 + d.length + masses l
def masses : List Itm → Nat | [] => 0 | x :: r => mass x + masses r
end
mutual
theorem par_mass : ∀ x : Itm, par x ≤ mass x
  | .mk _ _ d l => by have := pars_mass l; rw [par, mass]; omega
theorem pars_mass : ∀ l : List Itm, pars l ≤ masses l
  | [] => by rw [pars]; omega
  | x :: r => by have := par_mass x; have := pars_mass r; rw [pars, masses]; omega
end
mutual
theorem wri_mass : ∀ x : Itm, (wri x).length ≤ 11 * mass x
  | .mk k n d l => by
    have h := wrs_mass l
    have h1 := hsz_le n
    have h2 := hsz_le d.length
    have h3 := hsz_le l.length
    rw [wri, mass]
    split
    · rw [hd_len]; omega
    split
    · rw [List.length_append, hd_len]; omega
    split
    · rw [List.length_append, hd_len]; omega
    · simp only [List.length_cons, List.length_append, List.length_nil]; omega
theorem wrs_mass : ∀ l : List Itm, (wrs l).length ≤ 11 * masses l
  | [] => by rw [wrs]; simp
  | x :: r => by have := wri_mass x; have := wrs_mass r; rw [wrs, masses, List.length_append]; omega
end

theorem bulkAll_lits {H : Type} (k : IntKind) : ∀ zs : List Int, Rows.uptoBulkAll (lits (H := H) k zs) = zs.length
  | [] => rfl
  | z :: r => by
    have := bulkAll_lits (H := H) k r
    show Rows.uptoBulkAll (DataW.lit (.int k z) :: lits k r) = _
    rw [Rows.uptoBulkAll, this, Rows.uptoBulk, List.length_cons]
    · omega
    · intro b h; cases h
theorem bulkAll_get {H : Type} : ∀ (l : List (DataW H)) (i : Nat) (hi : i < l.length), Rows.uptoBulk (l[i]'hi) ≤ Rows.uptoBulkAll l
  | [], _, hi => absurd hi (Nat.not_lt_zero _)
  | x :: r, 0, _ => by rw [Rows.uptoBulkAll]; simp
  | x :: r, i + 1, hi => by
    have := bulkAll_get r i (by simpa using hi)
    rw [Rows.uptoBulkAll]
    simp
    omega

theorem bulk_pos {H : Type} : ∀ d : DataW H, 1 ≤ Rows.uptoBulk d
  | .lit x => by cases x <;> simp [Rows.uptoBulk]
  | .nil => by simp [Rows.uptoBulk]
  | .ptr _ => by simp [Rows.uptoBulk]
  | .slice _ _ => by simp [Rows.uptoBulk]
  | .agg _ => by simp [Rows.uptoBulk]
  | .iface _ _ => by simp [Rows.uptoBulk]
  | .map _ => by simp [Rows.uptoBulk]
  | .held _ => by simp [Rows.uptoBulk]
theorem bulk_len {H : Type} : ∀ l : List (DataW H), l.length ≤ Rows.uptoBulkAll l
  | [] => Nat.zero_le _
  | x :: r => by have := bulk_pos x; have := bulk_len r; rw [Rows.uptoBulkAll, List.length_cons]; omega
/-- Items chosen for each element. -/
theorem pick_all {H : Type} : ∀ (ds : List (DataW H)) (n : Nat) (hn : ds.length = n) (P : Nat → Itm → Prop), (∀ i (hi : i < n), ∃ x, P i x ∧ mass x ≤ Rows.uptoBulk (ds[i]'(by omega))) →
    ∃ l : List Itm, l.length = n ∧ (∀ i (hi : i < l.length), P i (l[i]'hi)) ∧ masses l ≤ Rows.uptoBulkAll ds
  | [], n, hn, P, _ => ⟨[], hn, fun i hi => absurd hi (Nat.not_lt_zero _), Nat.le_refl _⟩
  | d :: ds, n, hn, P, h => by
    obtain ⟨m, rfl⟩ : ∃ m, n = m + 1 := ⟨ds.length, by simpa using hn.symm⟩
    obtain ⟨x, hx, hxm⟩ := h 0 (by omega)
    obtain ⟨l, h1, h2, h3⟩ := pick_all ds m (by simpa using hn) (fun i => P (i + 1)) (fun i hi => by
      obtain ⟨y, hy, hym⟩ := h (i + 1) (by omega)
      exact ⟨y, hy, by simpa using hym⟩)
    refine ⟨x :: l, by simpa using h1, fun i hi => ?_, ?_⟩
    · cases i with
      | zero => exact hx
      | succ i => exact h2 i (by simpa using hi)
    · rw [masses, Rows.uptoBulkAll]
      simp at hxm
      omega

section
variable {H : Type} {enc : TypeId × Value → H} {w : World}
theorem c_data : Tryd.prog.cellsOf 23 = 1 := by kernel_rfl
theorem c_list : Tryd.prog.cellsOf 43 = 1 := by kernel_rfl
theorem c_item : Tryd.prog.cellsOf 45 = 4 := by kernel_rfl
theorem c_kind : Tryd.prog.cellsOf 42 = 1 := by kernel_rfl
theorem c_u64 : Tryd.prog.cellsOf 22 = 1 := by kernel_rfl
theorem c_u8 : Tryd.prog.cellsOf 5 = 1 := by kernel_rfl

/-- A slice of bytes that is read. -/
theorem open_data {fuel : Nat} {cs : List Value} {y : DataW H × List MemPlace} (h : DataW.trod enc Tryd.prog w 0 (fun _ => true) true fuel 23 cs = some y) (hb : Rows.uptoBulk y.1 ≤ 1048576) :
    ∃ (A : Option Addr) (n c : Nat) (l : List UInt8), cs = [.slice A n c] ∧ n ≤ c ∧ n ≤ 1048576 ∧ Rd w w.heap.size A n l ∧ l.length + 1 ≤ Rows.uptoBulk y.1 := by
  rcases open_ints Tryd.underlying23 Tryd.underlying5 c_u8 h with ⟨rfl, rfl⟩ | ⟨x, l, c, zs, rfl, _, hl, hm, hz, rfl, hcell, hwz⟩
  · exact ⟨none, 0, 0, [], rfl, Nat.le_refl _, Nat.zero_le _, Rd.nil_, by rw [Rows.uptoBulk]; decide⟩
  · have hz' : zs.length = c := by simpa using hz
    simp only [Rows.uptoBulk, bulkAll_lits, List.length_take, List.length_drop] at hb ⊢
    exact ⟨some x, l, c, _, rfl, hl, by omega, Rd.of_ints hl hz' hcell hwz, by first | (simp; done) | (simp; omega)⟩

set_option maxRecDepth 100000 in
/-- An item that is read. -/
theorem open_item : ∀ (fuel : Nat) (cs : List Value) (y : DataW H × List MemPlace), DataW.trod enc Tryd.prog w 0 (fun _ => true) true fuel 45 cs = some y → Rows.uptoBulk y.1 ≤ 1048576 →
    ∃ (x : Itm) (c0 c1 c2 c3 : Value), cs = [c0, c1, c2, c3] ∧ RdI w w.heap.size (.agg #[c0, c1, c2, c3]) x ∧ mass x ≤ Rows.uptoBulk y.1 := by
  intro fuel
  induction fuel using Nat.strongRecOn with
  | _ fuel ih =>
    intro cs y h hb
    obtain ⟨xs, n, rfl, rfl, hl, hlen, hf⟩ := DataW.trod_struct Tryd.underlying45 h
    rw [c_item] at hl
    match xs, hlen, cs, hl with
    | [y0, y1, y2, y3], _, [c0, c1, c2, c3], _ =>
      have g0 := hf 0 _ rfl
      have g1 := hf 1 _ rfl
      have g2 := hf 2 _ rfl
      have g3 := hf 3 _ rfl
      simp [c_data, c_list, c_kind, c_u64] at g0 g1 g2 g3
      obtain ⟨k, hk, rfl, hkw⟩ := DataW.trod_int Tryd.underlying42 g0
      obtain ⟨nn, hn, rfl, hnw⟩ := DataW.trod_int Tryd.underlying22 g1
      have hk' : c0 = .int .i64 k := by simpa using hk
      have hn' : c1 = .int .u64 nn := by simpa using hn
      subst hk' hn'
      simp only [List.map_cons, List.map_nil, Rows.uptoBulk, Rows.uptoBulkAll] at hb ⊢
      obtain ⟨A, nd, cd, d, hc2, hnc, hnd, hrd, hdb⟩ := open_data g2 (by omega)
      have hc2' : c2 = .slice A nd cd := by simpa using hc2
      subst hc2'
      have hnn : 0 ≤ nn ∧ nn < 18446744073709551616 := by
        simp [Lit.wf, IntKind.min, IntKind.max, IntKind.signed, IntKind.bits] at hnw
        omega
      have hne : ((nn.toNat : Nat) : Int) = nn := by omega
      obtain ⟨AL, nl, cl, l, hc3, hlc, hnl, hll, hlist, hlb⟩ : ∃ (AL : Option Addr) (nl cl : Nat) (l : List Itm), c3 = .slice AL nl cl ∧ nl ≤ cl ∧ nl ≤ 1048576 ∧ l.length = nl ∧ (0 < nl → ∃ b o, AL = some ⟨b, o, none⟩ ∧ b < w.heap.size ∧ RdIs w w.heap.size b o l) ∧ masses l + 1 ≤ Rows.uptoBulk y3.1 := by
        rcases DataW.trod_slice Tryd.underlying43 g3 with ⟨hc, rfl⟩ | ⟨a, len, cap, elems, rest, m, rfl, hc, rfl, hba, hlc, hlm, hel, hget, _, _⟩
        · refine ⟨none, 0, 0, [], by simpa using hc, Nat.le_refl _, Nat.zero_le _, rfl, fun h => absurd h (Nat.lt_irrefl _), ?_⟩
          rw [masses, Rows.uptoBulk]
          simp
        · simp only [Rows.uptoBulk] at hb ⊢
          have hel2 : (elems.map (·.1)).length = len := by rw [List.length_map, hel]
          have hone : ∀ i (hi : i < len), ∃ (x : Itm) (c0 c1 c2 c3 : Value), w.cells? 0 (a.add (i * 4)) 4 = some [c0, c1, c2, c3] ∧ RdI w w.heap.size (.agg #[c0, c1, c2, c3]) x ∧ mass x ≤ Rows.uptoBulk ((elems.map (·.1))[i]'(by rw [hel2]; exact hi)) := by
            intro i hi
            have hg := hget i hi
            rw [c_item, List.getElem?_eq_getElem (by rw [hel]; exact hi)] at hg
            obtain ⟨cs', h1, h2⟩ := Option.bind_eq_some_iff.1 hg
            have hbb := bulkAll_get (elems.map (·.1)) i (by rw [hel2]; exact hi)
            simp only [List.getElem_map] at hbb
            obtain ⟨x, d0, d1, d2, d3, rfl, hr, hm⟩ := ih m (by omega) cs' _ h2 (by omega)
            exact ⟨x, d0, d1, d2, d3, h1, hr, by simpa using hm⟩
          have hlen2 := bulk_len (elems.map (·.1))
          rw [hel2] at hlen2
          obtain ⟨l, hl1, hl2, hl3⟩ := pick_all (elems.map (·.1)) len hel2 (fun i x => ∃ (c0 c1 c2 c3 : Value), w.cells? 0 (a.add (i * 4)) 4 = some [c0, c1, c2, c3] ∧ RdI w w.heap.size (.agg #[c0, c1, c2, c3]) x) (fun i hi => by
            obtain ⟨x, c0, c1, c2, c3, h1, h2, h3⟩ := hone i hi
            exact ⟨x, ⟨c0, c1, c2, c3, h1, h2⟩, h3⟩)
          refine ⟨some a, len, cap, l, by simpa using hc, hlc, by omega, hl1, fun h0 => ?_, by omega⟩
          obtain ⟨b, o, spot⟩ := a
          obtain ⟨c0, c1, c2, c3, h1, h2⟩ := hl2 0 (by omega)
          obtain ⟨_, _, hcell⟩ := World.cells?_some h1
          have hc0 := hcell 0 (by omega)
          have hspot : spot = none := by simpa [Addr.add] using World.cell?_spot hc0
          subst hspot
          refine ⟨b, o, rfl, ?_, RdIs.of_get fun i hi => ?_⟩
          · have := World.block_lt_of_cell? w _ hc0
            simpa [Addr.add] using this
          · obtain ⟨c0, c1, c2, c3, h1, h2⟩ := hl2 i (by omega)
            obtain ⟨_, _, hcell⟩ := World.cells?_some h1
            have e : ∀ j, ((⟨b, o, none⟩ : Addr).add (i * 4)).add j = ⟨b, o + i * 4 + j, none⟩ := fun j => by rw [add_plain, add_plain]
            have q0 := hcell 0 (by omega)
            have q1 := hcell 1 (by omega)
            have q2 := hcell 2 (by omega)
            have q3 := hcell 3 (by omega)
            rw [e] at q0 q1 q2 q3
            exact ⟨c0, c1, c2, c3, q0, q1, q2, q3, h2⟩
      subst hc3
      refine ⟨.mk k nn.toNat d l, _, _, _, _, rfl, ?_, ?_⟩
      · rw [RdI, hne]
        exact ⟨A, nd, cd, AL, nl, cl, rfl, hkw, by omega, ⟨hnc, by omega⟩, hrd, ⟨hlc, by omega⟩, hll, hlist⟩
      · rw [mass]
        omega
end
end Go.Proofs.YtmcflcihldmidaaDoor
