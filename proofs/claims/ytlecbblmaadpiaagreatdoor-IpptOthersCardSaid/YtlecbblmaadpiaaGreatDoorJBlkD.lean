/- What item of layer 5 returns. (Made by gen/BlkD.py.) -/
import Derived.Test.YtlecbblmaadpiaaGreatDoorJArrS
import Derived.Test.YtlecbblmaadpiaaGreatDoorJBlkC
import Derived.Test.YtlecbblmaadpiaaGreatDoorJKRd
import Derived.Deep.RegionHeld3
import Derived.Deep.AppendLies
import Derived.Laws.MakeOwn
namespace Go.Proofs.YtlecbblmaadpiaaGreatDoor
open Go.RowKit
set_option maxRecDepth 100000 in
set_option maxHeartbeats 1000000 in
theorem cuintV (n : Int) (w : World) :
    Calls Tryz.prog 115 #[.int .u64 n] w fun e w' => e = .returned (.agg #[.int .i64 0, .int .u64 n, .slice none 0 0, .slice none 0 0]) ∧ Below w.heap.size w w' := by
  go_enter Tryz.func115, Tryz.ntmps115
  go_wp2_with fail
  exact bodyPost_ret (v := .agg #[.int .i64 0, .int .u64 n, .slice none 0 0, .slice none 0 0]) (by simp [results, Tryz.results115, go_sem]) rfl ⟨rfl, (Below.refl _ _).alloc (Nat.le_refl _) _⟩
theorem box5 {w w' : World} {c0 c1 c2 c3 c4 : Value} {t : TypeId} {g : Nat} (hg : g = w.heap.size) (h : Below (g + 1) (w.alloc (.cells #[c0, c1, c2, c3, c4] t)) w') :
    w'.cell? ⟨g, 0, none⟩ = some c0 ∧ w'.cell? ⟨g, 1, none⟩ = some c1 ∧ w'.cell? ⟨g, 2, none⟩ = some c2 ∧ w'.cell? ⟨g, 3, none⟩ = some c3 ∧ w'.cell? ⟨g, 4, none⟩ = some c4 := by
  subst hg
  refine ⟨?_, ?_, ?_, ?_, ?_⟩ <;> (rw [h.cell (Nat.lt_succ_self _), World.cell?_alloc_at _ _ _ _ rfl]; rfl)
theorem Rd.mask_any {w : World} {lo B n : Nat} {A : Option Addr} {l : List UInt8} (h : Rd w B A n l) (hA : 0 < n → ∀ b o, A = some ⟨b, o, none⟩ → lo ≤ b) : Rd (mask (lows lo) w) B A n l :=
  ⟨h.1, fun hn => by
    obtain ⟨b, o, e, hB, hc⟩ := h.2 hn
    exact ⟨b, o, e, hB, fun i hi => (mask_cell (lows_f.2 (hA hn b o e))).trans (hc i hi)⟩⟩
set_option maxRecDepth 100000 in
set_option maxHeartbeats 1000000 in
theorem cbytesL_any (lo : Nat) (A : Option Addr) (n c B : Nat) (l : List UInt8) (w : World) (hlo : lo ≤ w.heap.size) (hB : B ≤ w.heap.size) (h : Rd w B A n l) (hn : n ≤ 140737488355328) :
    Calls Tryz.prog 110 #[.slice A n c] w (GivesL lo (.mk 2 0 l []) w) := by
  have C1 := Lib.hid (bclone_any A n c B l (w.alloc (.cells #[.int .i64 0, .int .u64 0, .slice none 0 0, .slice none 0 0] 30)) (Nat.le_trans hB (le_alloc _ _)) (h.alloc hB _) hn)
  have HLN := Lib.hid h.1
  have HN := Lib.hid hn
  have HLO := Lib.hid hlo
  clear h hn hB hlo
  go_enter Tryz.func110, Tryz.ntmps110
  go_wp2_with fail
  refine C1.out.mono ?_
  rintro e w1 ⟨v, rfl, ho, hb⟩
  have hb' := to_box hb
  obtain ⟨⟨z0, z1, z2, z3⟩, f0, f1, f2, f3⟩ := zero_cells hb'
  obtain ⟨A2, c2, rfl, hc2, hm2, hr2⟩ := ho.rdn HLN.out
  have HR2 := Lib.hid hr2
  have HO2 := Lib.hid ho
  have B1 := Lib.hid hb'
  clear ho hb hb' hr2
  go_wp2_with fail
  have hblk : ∀ b o, 0 < n → A2 = some ⟨b, o, none⟩ → w.heap.size < b := by
    intro b o hn h
    obtain ⟨g, cap, hv, hg, _, _⟩ := HO2.out.form (by rw [HLN.out]; exact hn)
    subst h
    cases hv
    simp at hg
    omega
  have HLO' := HLO.out
  refine bodyPost_ret (v := .agg #[.int .i64 2, .int .u64 0, .slice A2 n c2, .slice none 0 0]) (by simp [results, Tryz.results110, go_sem, z0, z1, z2, z3]) rfl ⟨_, rfl, RdI.mk_data (by decide) hc2 HN.out (Rd.mask_any ?_ (fun hn b o h => by have := hblk b o hn h; omega)), ?_⟩
  · refine Rd.set4 (HR2.out.more (by simp [World.setCell])) (fun hn b o h => ?_)
    have := hblk b o hn h
    omega
  · exact below_set4 (((Below.refl _ _).alloc (Nat.le_refl _) _).trans (B1.out.mono (Nat.le_succ _))) (Nat.le_refl _)
theorem ItC.row {lo : Nat} {W : World} {cs : List Value} {xs : List Itm} {t : TypeId} (hlo : lo ≤ W.heap.size) (h : ItC (mask (lows lo) W) W.heap.size cs xs) :
    RdIs (mask (lows lo) (W.alloc (.cells cs.toArray t))) (W.heap.size + 1) W.heap.size 0 xs :=
  ItC.lie (h.mask_go (S' := lows lo) (B' := W.heap.size + 1) (Nat.le_succ _) (fun _ hk _ => Below.heap_alloc _ _ _ hk) (fun _ _ h => h)) (fun j u hj => by
    rw [Nat.zero_add, mask_cell (lows_f.2 hlo), World.cell?_alloc_at _ _ _ _ rfl]
    simpa using hj)
theorem carray_row {lo n cap b B : Nat} {W : World} {xs : List Itm} (hlo : lo ≤ W.heap.size) (hB : B ≤ W.heap.size) (hb : b < B) (h : RdIs (mask (lows lo) W) B b 0 xs) (hn : xs.length = n) (h0 : 0 < n) (hp : pars xs ≤ 1000000) (hc : n ≤ cap) :
    Calls Tryz.prog 114 #[.slice (some ⟨b, 0, none⟩) n cap] W (GivesL lo (.mk 4 0 [] xs) W) :=
  carrayS_any (lows lo) b 0 n cap B xs W (fun k hk => by have h1 := decide_eq_true_iff.1 hk; omega) hB hb h hn h0 hp hc
theorem make_z2 (W : World) : (Instr.makeSlice 27 (.int .i64 2) (.int .i64 2)).run Tryz.prog W = .ok (.slice (some ⟨W.heap.size, 0, none⟩) 2 2) (W.alloc (.cells #[.int .u8 0, .int .u8 0] 5)) := by
  obtain ⟨i, h1, h2, h3, h4⟩ := info_parts info_u8
  rw [run_makeSlice W 27 5 i _ Tryz.underlying27 h1 h2 .i64 .i64 2 2 (by decide) (by decide) (by rw [h3]; decide) (by rw [h4]; decide) (by decide), h3, show madeCells (Value.int IntKind.u8 0).cells (Int.toNat 2 * 1) = #[.int .u8 0, .int .u8 0] by kernel_rfl]
  rfl
theorem make_z4 (W : World) : (Instr.makeSlice 27 (.int .i64 4) (.int .i64 4)).run Tryz.prog W = .ok (.slice (some ⟨W.heap.size, 0, none⟩) 4 4) (W.alloc (.cells #[.int .u8 0, .int .u8 0, .int .u8 0, .int .u8 0] 5)) := by
  obtain ⟨i, h1, h2, h3, h4⟩ := info_parts info_u8
  rw [run_makeSlice W 27 5 i _ Tryz.underlying27 h1 h2 .i64 .i64 4 4 (by decide) (by decide) (by rw [h3]; decide) (by rw [h4]; decide) (by decide), h3, show madeCells (Value.int IntKind.u8 0).cells (Int.toNat 4 * 1) = #[.int .u8 0, .int .u8 0, .int .u8 0, .int .u8 0] by kernel_rfl]
  rfl
end Go.Proofs.YtlecbblmaadpiaaGreatDoor
