/- Items that come in as arguments: a reading of one is an item in memory, no greater than the reading's bulk. -/
import Derived.Test.YtlecbblmaadpiaaGreatDoorMEidF
import Derived.Test.YtlecbblmaadpiaaGreatDoorMEidW4
import Derived.Test.YtlecbblmaadpiaaGreatDoorMKWrite
import Derived.Test.YtlecbblmaadpiaaGreatDoorMRfQ
import Derived.Test.YtlecbblmaadpiaaGreatDoorMRfS
import Derived.ChangeSame
import Derived.ChangeShapes
import Derived.ChangeArms
import Derived.Deep.Slices
namespace Go.Proofs.YtlecbblmaadpiaaGreatDoor
open Go.RowKit Go.ChangeShapes Go.WideShapes Go.Deep
mutual
def mass : Itm → Nat | .mk _ _ d l => 1 + d.length + masses l
def masses : List Itm → Nat | [] => 0 | x :: r => mass x + masses r
end
mutual
theorem par_mass : ∀ x : Itm, par x ≤ mass x
  | .mk _ _ d l => by have := pars_mass l; rw [par, mass]; omega
theorem pars_mass : ∀ l : List Itm, pars l ≤ masses l
  | [] => by rw [pars]; omega
  | x :: r => by have := par_mass x; have := pars_mass r; rw [pars, masses]; omega
end
mutual
theorem wri_mass : ∀ x : Itm, (wri x).length ≤ 11 * mass x
  | .mk k n d l => by
    have h := wrs_mass l
    have h1 := hsz_le n
    have h2 := hsz_le d.length
    have h3 := hsz_le l.length
    rw [wri, mass]
    split
    · rw [hd_len]; omega
    split
    · rw [List.length_append, hd_len]; omega
    split
    · rw [List.length_append, hd_len]; omega
    · simp only [List.length_cons, List.length_append, List.length_nil]; omega
theorem wrs_mass : ∀ l : List Itm, (wrs l).length ≤ 11 * masses l
  | [] => by rw [wrs]; simp
  | x :: r => by have := wri_mass x; have := wrs_mass r; rw [wrs, masses, List.length_append]; omega
end
theorem bulkAll_lits {H : Type} (k : IntKind) : ∀ zs : List Int, Rows.uptoBulkAll (lits (H := H) k zs) = zs.length
  | [] => rfl
  | z :: r => by
    have := bulkAll_lits (H := H) k r
    show Rows.uptoBulkAll (DataW.lit (.int k z) :: lits k r) = _
    rw [Rows.uptoBulkAll, this, Rows.uptoBulk, List.length_cons]
    · omega
    · intro b h; cases h
theorem bulkAll_get {H : Type} : ∀ (l : List (DataW H)) (i : Nat) (hi : i < l.length), Rows.uptoBulk (l[i]'hi) ≤ Rows.uptoBulkAll l
  | [], _, hi => absurd hi (Nat.not_lt_zero _)
  | x :: r, 0, _ => by rw [Rows.uptoBulkAll]; simp
  | x :: r, i + 1, hi => by
    have := bulkAll_get r i (by simpa using hi)
    rw [Rows.uptoBulkAll]
    simp
    omega
theorem bulk_pos {H : Type} : ∀ d : DataW H, 1 ≤ Rows.uptoBulk d
  | .lit x => by cases x <;> simp [Rows.uptoBulk]
  | .nil => by simp [Rows.uptoBulk]
  | .ptr _ => by simp [Rows.uptoBulk]
  | .slice _ _ => by simp [Rows.uptoBulk]
  | .agg _ => by simp [Rows.uptoBulk]
  | .iface _ _ => by simp [Rows.uptoBulk]
  | .map _ => by simp [Rows.uptoBulk]
  | .held _ => by simp [Rows.uptoBulk]
theorem bulk_len {H : Type} : ∀ l : List (DataW H), l.length ≤ Rows.uptoBulkAll l
  | [] => Nat.zero_le _
  | x :: r => by have := bulk_pos x; have := bulk_len r; rw [Rows.uptoBulkAll, List.length_cons]; omega
theorem pick_all {H : Type} : ∀ (ds : List (DataW H)) (n : Nat) (hn : ds.length = n) (P : Nat → Itm → Prop), (∀ i (hi : i < n), ∃ x, P i x ∧ mass x ≤ Rows.uptoBulk (ds[i]'(by omega))) →
    ∃ l : List Itm, l.length = n ∧ (∀ i (hi : i < l.length), P i (l[i]'hi)) ∧ masses l ≤ Rows.uptoBulkAll ds
  | [], n, hn, P, _ => ⟨[], hn, fun i hi => absurd hi (Nat.not_lt_zero _), Nat.le_refl _⟩
  | d :: ds, n, hn, P, h => by
    obtain ⟨m, rfl⟩ : ∃ m, n = m + 1 := ⟨ds.length, by simpa using hn.symm⟩
    obtain ⟨x, hx, hxm⟩ := h 0 (by omega)
    obtain ⟨l, h1, h2, h3⟩ := pick_all ds m (by simpa using hn) (fun i => P (i + 1)) (fun i hi => by
      obtain ⟨y, hy, hym⟩ := h (i + 1) (by omega)
      exact ⟨y, hy, by simpa using hym⟩)
    refine ⟨x :: l, by simpa using h1, fun i hi => ?_, ?_⟩
    · cases i with
      | zero => exact hx
      | succ i => exact h2 i (by simpa using hi)
    · rw [masses, Rows.uptoBulkAll]
      simp at hxm
      omega
section
variable {H : Type} {enc : TypeId × Value → H} {w : World}
theorem c_data : Tryz.prog.cellsOf 27 = 1 := by kernel_rfl
theorem c_list : Tryz.prog.cellsOf 28 = 1 := by kernel_rfl
theorem c_item : Tryz.prog.cellsOf 30 = 4 := by kernel_rfl
theorem c_kind : Tryz.prog.cellsOf 26 = 1 := by kernel_rfl
theorem c_u64 : Tryz.prog.cellsOf 23 = 1 := by kernel_rfl
theorem c_u8 : Tryz.prog.cellsOf 5 = 1 := by kernel_rfl
theorem open_data {fuel : Nat} {cs : List Value} {y : DataW H × List MemPlace} (h : DataW.trod enc Tryz.prog w 0 (fun _ => true) true fuel 27 cs = some y) (hb : Rows.uptoBulk y.1 ≤ 1048576) :
    ∃ (A : Option Addr) (n c : Nat) (l : List UInt8), cs = [.slice A n c] ∧ n ≤ c ∧ n ≤ 1048576 ∧ Rd w w.heap.size A n l ∧ l.length + 1 ≤ Rows.uptoBulk y.1 := by
  rcases open_ints Tryz.underlying27 Tryz.underlying5 c_u8 h with ⟨rfl, rfl⟩ | ⟨x, l, c, zs, rfl, _, hl, hm, hz, rfl, hcell, hwz⟩
  · exact ⟨none, 0, 0, [], rfl, Nat.le_refl _, Nat.zero_le _, Rd.nil_, by rw [Rows.uptoBulk]; decide⟩
  · have hz' : zs.length = c := by simpa using hz
    simp only [Rows.uptoBulk, bulkAll_lits, List.length_take, List.length_drop] at hb ⊢
    exact ⟨some x, l, c, _, rfl, hl, by omega, Rd.of_ints hl hz' hcell hwz, by first | (simp; done) | (simp; omega)⟩
set_option maxRecDepth 100000 in
theorem open_item : ∀ (fuel : Nat) (cs : List Value) (y : DataW H × List MemPlace), DataW.trod enc Tryz.prog w 0 (fun _ => true) true fuel 30 cs = some y → Rows.uptoBulk y.1 ≤ 1048576 →
    ∃ (x : Itm) (c0 c1 c2 c3 : Value), cs = [c0, c1, c2, c3] ∧ RdI w w.heap.size (.agg #[c0, c1, c2, c3]) x ∧ mass x ≤ Rows.uptoBulk y.1 := by
  intro fuel
  induction fuel using Nat.strongRecOn with
  | _ fuel ih =>
    intro cs y h hb
    obtain ⟨xs, n, rfl, rfl, hl, hlen, hf⟩ := DataW.trod_struct Tryz.underlying30 h
    rw [c_item] at hl
    match xs, hlen, cs, hl with
    | [y0, y1, y2, y3], _, [c0, c1, c2, c3], _ =>
      have g0 := hf 0 _ rfl
      have g1 := hf 1 _ rfl
      have g2 := hf 2 _ rfl
      have g3 := hf 3 _ rfl
      simp [c_data, c_list, c_kind, c_u64] at g0 g1 g2 g3
      obtain ⟨k, hk, rfl, hkw⟩ := DataW.trod_int Tryz.underlying26 g0
      obtain ⟨nn, hn, rfl, hnw⟩ := DataW.trod_int Tryz.underlying23 g1
      have hk' : c0 = .int .i64 k := by simpa using hk
      have hn' : c1 = .int .u64 nn := by simpa using hn
      subst hk' hn'
      simp only [List.map_cons, List.map_nil, Rows.uptoBulk, Rows.uptoBulkAll] at hb ⊢
      obtain ⟨A, nd, cd, d, hc2, hnc, hnd, hrd, hdb⟩ := open_data g2 (by omega)
      have hc2' : c2 = .slice A nd cd := by simpa using hc2
      subst hc2'
      have hnn : 0 ≤ nn ∧ nn < 18446744073709551616 := by
        simp [Lit.wf, IntKind.min, IntKind.max, IntKind.signed, IntKind.bits] at hnw
        omega
      have hne : ((nn.toNat : Nat) : Int) = nn := by omega
      obtain ⟨AL, nl, cl, l, hc3, hlc, hnl, hll, hlist, hlb⟩ : ∃ (AL : Option Addr) (nl cl : Nat) (l : List Itm), c3 = .slice AL nl cl ∧ nl ≤ cl ∧ nl ≤ 1048576 ∧ l.length = nl ∧ (0 < nl → ∃ b o, AL = some ⟨b, o, none⟩ ∧ b < w.heap.size ∧ RdIs w w.heap.size b o l) ∧ masses l + 1 ≤ Rows.uptoBulk y3.1 := by
        rcases DataW.trod_slice Tryz.underlying28 g3 with ⟨hc, rfl⟩ | ⟨a, len, cap, elems, rest, m, rfl, hc, rfl, hba, hlc, hlm, hel, hget, _, _⟩
        · refine ⟨none, 0, 0, [], by simpa using hc, Nat.le_refl _, Nat.zero_le _, rfl, fun h => absurd h (Nat.lt_irrefl _), ?_⟩
          rw [masses, Rows.uptoBulk]
          simp
        · simp only [Rows.uptoBulk] at hb ⊢
          have hel2 : (elems.map (·.1)).length = len := by rw [List.length_map, hel]
          have hone : ∀ i (hi : i < len), ∃ (x : Itm) (c0 c1 c2 c3 : Value), w.cells? 0 (a.add (i * 4)) 4 = some [c0, c1, c2, c3] ∧ RdI w w.heap.size (.agg #[c0, c1, c2, c3]) x ∧ mass x ≤ Rows.uptoBulk ((elems.map (·.1))[i]'(by rw [hel2]; exact hi)) := by
            intro i hi
            have hg := hget i hi
            rw [c_item, List.getElem?_eq_getElem (by rw [hel]; exact hi)] at hg
            obtain ⟨cs', h1, h2⟩ := Option.bind_eq_some_iff.1 hg
            have hbb := bulkAll_get (elems.map (·.1)) i (by rw [hel2]; exact hi)
            simp only [List.getElem_map] at hbb
            obtain ⟨x, d0, d1, d2, d3, rfl, hr, hm⟩ := ih m (by omega) cs' _ h2 (by omega)
            exact ⟨x, d0, d1, d2, d3, h1, hr, by simpa using hm⟩
          have hlen2 := bulk_len (elems.map (·.1))
          rw [hel2] at hlen2
          obtain ⟨l, hl1, hl2, hl3⟩ := pick_all (elems.map (·.1)) len hel2 (fun i x => ∃ (c0 c1 c2 c3 : Value), w.cells? 0 (a.add (i * 4)) 4 = some [c0, c1, c2, c3] ∧ RdI w w.heap.size (.agg #[c0, c1, c2, c3]) x) (fun i hi => by
            obtain ⟨x, c0, c1, c2, c3, h1, h2, h3⟩ := hone i hi
            exact ⟨x, ⟨c0, c1, c2, c3, h1, h2⟩, h3⟩)
          refine ⟨some a, len, cap, l, by simpa using hc, hlc, by omega, hl1, fun h0 => ?_, by omega⟩
          obtain ⟨b, o, spot⟩ := a
          obtain ⟨c0, c1, c2, c3, h1, h2⟩ := hl2 0 (by omega)
          obtain ⟨_, _, hcell⟩ := World.cells?_some h1
          have hc0 := hcell 0 (by omega)
          have hspot : spot = none := by simpa [Addr.add] using World.cell?_spot hc0
          subst hspot
          refine ⟨b, o, rfl, ?_, RdIs.of_get fun i hi => ?_⟩
          · have := World.block_lt_of_cell? w _ hc0
            simpa [Addr.add] using this
          · obtain ⟨c0, c1, c2, c3, h1, h2⟩ := hl2 i (by omega)
            obtain ⟨_, _, hcell⟩ := World.cells?_some h1
            have e : ∀ j, ((⟨b, o, none⟩ : Addr).add (i * 4)).add j = ⟨b, o + i * 4 + j, none⟩ := fun j => by rw [add_plain, add_plain]
            have q0 := hcell 0 (by omega)
            have q1 := hcell 1 (by omega)
            have q2 := hcell 2 (by omega)
            have q3 := hcell 3 (by omega)
            rw [e] at q0 q1 q2 q3
            exact ⟨c0, c1, c2, c3, q0, q1, q2, q3, h2⟩
      subst hc3
      refine ⟨.mk k nn.toNat d l, _, _, _, _, rfl, ?_, ?_⟩
      · rw [RdI, hne]
        exact ⟨A, nd, cd, AL, nl, cl, rfl, hkw, by omega, ⟨hnc, by omega⟩, hrd, ⟨hlc, by omega⟩, hll, hlist⟩
      · rw [mass]
        omega
end
end Go.Proofs.YtlecbblmaadpiaaGreatDoor
/- Two endpoints compared whole. -/
namespace Go.Proofs.YtlecbblmaadpiaaGreatDoor
open Go.RowKit
set_option maxRecDepth 100000 in
set_option maxHeartbeats 2000000 in
theorem eql_eid (sc sc' : Int) (s s' : ByteArray) (n n' v v' : Int) (be : Bool) (hbe : be = true ↔ (sc = sc' ∧ s = s' ∧ n = n' ∧ v = v')) (w : World) :
    (binOp .eql 25 (.agg #[.int .i64 sc, .string s, .int .u64 n, .int .u64 v]) (.agg #[.int .i64 sc', .string s', .int .u64 n', .int .u64 v'])).run Tryz.prog w = .ok (.bool be) w := by
  have hss : s.toList = s'.toList ↔ s = s' := by
    rw [Lib.toList_data, Lib.toList_data]
    constructor
    · intro h; rw [← strL_data s, h, strL_data]
    · rintro rfl; rfl
  go_simp
  cases be with
  | true =>
    obtain ⟨h1, h2, h3, h4⟩ := hbe.1 rfl
    rw [if_pos h1, if_pos h2, if_pos h3, if_pos h4]
  | false =>
    split
    · split
      · split
        · split
          · rename_i h1 h2 h3 h4
            have := hbe.2 ⟨h1, h2, h3, h4⟩
            cases this
          · rfl
        · rfl
      · rfl
    · rfl
end Go.Proofs.YtlecbblmaadpiaaGreatDoor
/- EidReads of layer 4's statements, walked. (Made by gen/EidW5.py.) -/
namespace Go.Proofs.YtlecbblmaadpiaaGreatDoor
open Go.RowKit
def AnsG {α : Type} (f : Epd → α) (l : α) (sc : Int) (s : ByteArray) (n v : Nat) (z : Int) : Prop :=
  (checkB (ep sc s n v) = true ∧ f (ep sc s n v) = l ∧ z = 0) ∨ ((∀ e0, checkB e0 = true → f e0 ≠ l) ∧ sc = 0 ∧ s = ⟨#[]⟩ ∧ n = 0 ∧ v = 0 ∧ z = 40)
theorem AnsG.same {α : Type} {f : Epd → α} {l : α} {sc sc' : Int} {s s' : ByteArray} {n n' v v' : Nat} {z z' : Int} (hf : ∀ {a b : Epd}, checkB a = true → checkB b = true → f a = f b → a = b)
    (h : AnsG f l sc s n v z) (h' : AnsG f l sc' s' n' v' z') : sc = sc' ∧ s = s' ∧ n = n' ∧ v = v' ∧ z = z' := by
  rcases h with ⟨h1, h2, rfl⟩ | ⟨h1, rfl, rfl, rfl, rfl, rfl⟩
  · rcases h' with ⟨g1, g2, rfl⟩ | ⟨g1, -⟩
    · obtain ⟨e1, e2, e3, e4⟩ := ep_inj (hf h1 g1 (h2.trans g2.symm))
      exact ⟨e1, e2, e3, e4, rfl⟩
    · exact absurd h2 (g1 _ h1)
  · rcases h' with ⟨g1, g2, -⟩ | ⟨-, rfl, rfl, rfl, rfl, rfl⟩
    · exact absurd g2 (h1 _ g1)
    · exact ⟨rfl, rfl, rfl, rfl, rfl⟩
def GiveG {α : Type} (f : Epd → α) (l : α) (w : World) (e : Ending) (w' : World) : Prop := Below w.heap.size w w' ∧
  ∃ (sc : Int) (s : ByteArray) (n v : Nat) (z : Int), e = .returned (.tuple #[.agg #[.int .i64 sc, .string s, .int .u64 (n : Int), .int .u64 (v : Int)], .int .i64 z]) ∧ AnsG f l sc s n v z
theorem give_pars {l : List UInt8} {w w' : World} {e : Ending} (h : ParsE l w e w') : GiveG textE l w e w' := by
  obtain ⟨hb, ⟨sc, s, n, v, rfl, -, -, -, h1, h2⟩ | ⟨h1, rfl⟩⟩ := h
  · exact ⟨hb, sc, s, n, v, 0, rfl, .inl ⟨h1, h2, rfl⟩⟩
  · exact ⟨hb, 0, ⟨#[]⟩, 0, 0, 40, rfl, .inr ⟨h1, rfl, rfl, rfl, rfl, rfl⟩⟩
theorem give_from {l : Itm} {w w' : World} {e : Ending} (h : FromE l w e w') : GiveG itemE l w e w' := by
  obtain ⟨hb, ⟨sc, s, n, v, rfl, -, -, -, h1, h2⟩ | ⟨h1, rfl⟩⟩ := h
  · exact ⟨hb, sc, s, n, v, 0, rfl, .inl ⟨h1, h2, rfl⟩⟩
  · exact ⟨hb, 0, ⟨#[]⟩, 0, 0, 40, rfl, .inr ⟨h1, rfl, rfl, rfl, rfl, rfl⟩⟩
set_option maxRecDepth 100000 in
set_option maxHeartbeats 16000000 in
theorem eidReads_walk (s : ByteArray) (v : Value) (x : Itm) (w : World) (A : Snt) (hs : s.size ≤ 1048576) (hx : RdI w w.heap.size v x ∧ mass x ≤ 1048576) (hA : Lds A w) :
    Calls Tryz.prog 4 #[.string s, v] w fun e w' => e = .returned (.bool true) ∧ Below w.heap.size w w' := by
  obtain ⟨hx, -⟩ := hx
  replace hs : s.size ≤ 140737488355328 := Nat.le_trans hs (by decide)
  have CP1 := Lib.hid (fun (W : World) (hb : Below w.heap.size w W) => (parse_any A s W (hA.below hb (Nat.le_refl _)) hs).mono (fun _ _ h => give_pars h))
  have CP2 := Lib.hid (fun (W : World) => (rparse_any s W hs).mono (fun _ _ h => give_pars h))
  have CF1 := Lib.hid (fun (W : World) (hb : Below w.heap.size w W) => (from_any A x v w.heap.size W (hA.below hb (Nat.le_refl _)) hb.size (hx.below hb)).mono (fun _ _ h => give_from h))
  have CF2 := Lib.hid (fun (W : World) (hb : Below w.heap.size w W) => (rfrom_any x v w.heap.size W hb.size (hx.below hb)).mono (fun _ _ h => give_from h))
  have CH := Lib.hid (fun (W : World) (hb : Below w.heap.size w W) => heads_any A W (hA.below hb (Nat.le_refl _)))
  obtain ⟨k, m, D, nd, cd, AL, nl, cl, rfl⟩ := hx.form
  clear hx hA hs
  generalize s.data.toList = SL at *
  have HB0 := Lib.hid ((Below.refl w.heap.size w).alloc (Nat.le_refl _) (.cells #[.int .i64 k, .int .u64 (m : Int), .slice D nd cd, .slice AL nl cl] 30))
  have HW0 : Hid (Below (w.heap.size + 1) (w.alloc (.cells #[.int .i64 k, .int .u64 (m : Int), .slice D nd cd, .slice AL nl cl] 30)) (w.alloc (.cells #[.int .i64 k, .int .u64 (m : Int), .slice D nd cd, .slice AL nl cl] 30))) := Below.refl _ _
  have HS0 : Hid ((w.alloc (.cells #[.int .i64 k, .int .u64 (m : Int), .slice D nd cd, .slice AL nl cl] 30)).heap.size = w.heap.size + 1) := by show _ = _; simp
  have HE := Lib.hid (fun (W : World) (hb : Below (w.heap.size + 1) (w.alloc (.cells #[.int .i64 k, .int .u64 (m : Int), .slice D nd cd, .slice AL nl cl] 30)) W) => row_of_box (w := w) (g := w.heap.size) rfl hb)
  have HT := Lib.hid (fun (W : World) (hb : Below (w.heap.size + 1) (w.alloc (.cells #[.int .i64 k, .int .u64 (m : Int), .slice D nd cd, .slice AL nl cl] 30)) W) => HB0.out.trans (hb.mono (Nat.le_succ _)))
  go_enter Tryz.func4, Tryz.ntmps4
  go_wp2_with fail
  refine (CP1.out _ HB0.out).mono ?_
  rintro e u1 ⟨hb, sc1, s1, n1, v1, z1, rfl, G1⟩
  have B1 := Lib.hid (Below.push HW0.out (Nat.le_of_eq HS0.out.symm) hb)
  clear hb
  have A0 : Hid (Below u1.heap.size u1 (u1.alloc (.cells #[.int .i64 sc1, .string s1, .int .u64 (n1 : Int), .int .u64 (v1 : Int)] 25))) := (Below.refl _ _).alloc (Nat.le_refl _) _
  have R1 := Lib.hid (heap_alloc_new u1 (.cells #[.int .i64 sc1, .string s1, .int .u64 (n1 : Int), .int .u64 (v1 : Int)] 25))
  have A2 := Lib.hid (Below.push B1.out (Nat.le_of_eq HS0.out.symm) A0.out)
  clear A0
  go_wp2_with fail
  generalize u1.alloc (.cells #[.int .i64 sc1, .string s1, .int .u64 (n1 : Int), .int .u64 (v1 : Int)] 25) = W1 at *
  generalize u1.heap.size = g1 at *
  refine (CP2.out _).mono ?_
  rintro e u2 ⟨hb, sc2, s2, n2, v2, z2, rfl, G2⟩
  have B2 := Lib.hid (Below.push A2.out (Nat.le_of_eq HS0.out.symm) hb)
  replace R1 := Lib.hid (rowBelow R1.out hb (row_lt R1.out))
  clear hb
  obtain ⟨rfl, rfl, rfl, rfl, rfl⟩ := G1.same (fun h1 h2 h3 => text_inj h1 h2 h3) G2
  clear G1 G2
  have A0 : Hid (Below u2.heap.size u2 (u2.alloc (.cells #[.int .i64 sc1, .string s1, .int .u64 (n1 : Int), .int .u64 (v1 : Int)] 25))) := (Below.refl _ _).alloc (Nat.le_refl _) _
  have R2 := Lib.hid (heap_alloc_new u2 (.cells #[.int .i64 sc1, .string s1, .int .u64 (n1 : Int), .int .u64 (v1 : Int)] 25))
  replace R1 := Lib.hid (rowBelow R1.out A0.out (row_lt R1.out))
  have A3 := Lib.hid (Below.push B2.out (Nat.le_of_eq HS0.out.symm) A0.out)
  clear A0
  have HR := HE.out _ A3.out
  obtain ⟨y0, y1, y2, y3⟩ := row4_cells HR
  clear HR
  go_wp2_with fail
  clear y0 y1 y2 y3
  generalize u2.alloc (.cells #[.int .i64 sc1, .string s1, .int .u64 (n1 : Int), .int .u64 (v1 : Int)] 25) = W2 at *
  generalize u2.heap.size = g2 at *
  refine (CF1.out _ (HT.out _ A3.out)).mono ?_
  rintro e u3 ⟨hb, sc3, s3, n3, v3, z3, rfl, G3⟩
  have B3 := Lib.hid (Below.push A3.out (Nat.le_of_eq HS0.out.symm) hb)
  replace R1 := Lib.hid (rowBelow R1.out hb (row_lt R1.out))
  replace R2 := Lib.hid (rowBelow R2.out hb (row_lt R2.out))
  clear hb
  have A0 : Hid (Below u3.heap.size u3 (u3.alloc (.cells #[.int .i64 sc3, .string s3, .int .u64 (n3 : Int), .int .u64 (v3 : Int)] 25))) := (Below.refl _ _).alloc (Nat.le_refl _) _
  have R3 := Lib.hid (heap_alloc_new u3 (.cells #[.int .i64 sc3, .string s3, .int .u64 (n3 : Int), .int .u64 (v3 : Int)] 25))
  replace R1 := Lib.hid (rowBelow R1.out A0.out (row_lt R1.out))
  replace R2 := Lib.hid (rowBelow R2.out A0.out (row_lt R2.out))
  have A4 := Lib.hid (Below.push B3.out (Nat.le_of_eq HS0.out.symm) A0.out)
  clear A0
  have HR := HE.out _ A4.out
  obtain ⟨y0, y1, y2, y3⟩ := row4_cells HR
  clear HR
  go_wp2_with fail
  clear y0 y1 y2 y3
  generalize u3.alloc (.cells #[.int .i64 sc3, .string s3, .int .u64 (n3 : Int), .int .u64 (v3 : Int)] 25) = W3 at *
  generalize u3.heap.size = g3 at *
  refine (CF2.out _ (HT.out _ A4.out)).mono ?_
  rintro e u4 ⟨hb, sc4, s4, n4, v4, z4, rfl, G4⟩
  have B4 := Lib.hid (Below.push A4.out (Nat.le_of_eq HS0.out.symm) hb)
  replace R1 := Lib.hid (rowBelow R1.out hb (row_lt R1.out))
  replace R2 := Lib.hid (rowBelow R2.out hb (row_lt R2.out))
  replace R3 := Lib.hid (rowBelow R3.out hb (row_lt R3.out))
  clear hb
  obtain ⟨rfl, rfl, rfl, rfl, rfl⟩ := G3.same (fun h1 h2 h3 => item_inj h1 h2 h3) G4
  clear G3 G4
  have A0 : Hid (Below u4.heap.size u4 (u4.alloc (.cells #[.int .i64 sc3, .string s3, .int .u64 (n3 : Int), .int .u64 (v3 : Int)] 25))) := (Below.refl _ _).alloc (Nat.le_refl _) _
  have R4 := Lib.hid (heap_alloc_new u4 (.cells #[.int .i64 sc3, .string s3, .int .u64 (n3 : Int), .int .u64 (v3 : Int)] 25))
  replace R1 := Lib.hid (rowBelow R1.out A0.out (row_lt R1.out))
  replace R2 := Lib.hid (rowBelow R2.out A0.out (row_lt R2.out))
  replace R3 := Lib.hid (rowBelow R3.out A0.out (row_lt R3.out))
  have A5 := Lib.hid (Below.push B4.out (Nat.le_of_eq HS0.out.symm) A0.out)
  clear A0
  obtain ⟨y10, y11, y12, y13⟩ := row4_cells R1.out
  obtain ⟨y20, y21, y22, y23⟩ := row4_cells R2.out
  obtain ⟨y30, y31, y32, y33⟩ := row4_cells R3.out
  obtain ⟨y40, y41, y42, y43⟩ := row4_cells R4.out
  have hz1 : (z1 == z1) = true := by simp
  have hz3 : (z3 == z3) = true := by simp
  have q1 := fun W => eql_eid sc1 sc1 s1 s1 (n1 : Int) (n1 : Int) (v1 : Int) (v1 : Int) true (by simp) W
  have q3 := fun W => eql_eid sc3 sc3 s3 s3 (n3 : Int) (n3 : Int) (v3 : Int) (v3 : Int) true (by simp) W
  go_wp2_with fail
  refine (CH.out _ (HT.out _ A5.out)).mono ?_
  rintro e w9 ⟨rfl, hb⟩
  have HZ := Lib.hid ((HT.out _ A5.out).trans (hb.mono (HT.out _ A5.out).size))
  clear hb
  go_wp2_with fail
  go_ret
  exact ⟨rfl, HZ.out⟩
end Go.Proofs.YtlecbblmaadpiaaGreatDoor
