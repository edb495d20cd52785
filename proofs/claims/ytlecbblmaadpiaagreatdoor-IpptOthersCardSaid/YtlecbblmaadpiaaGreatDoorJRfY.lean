/- What Put of layer 6's reference returns. (Made by gen/RfY.py, gen/bun.py.) -/
import Derived.Test.YtlecbblmaadpiaaGreatDoorJBunW6
namespace Go.Proofs.YtlecbblmaadpiaaGreatDoor
open Go.RowKit
def PutR (h : BH) (l : List Blk) (x : Blk) (w : World) (e : Ending) (w' : World) : Prop := Below w.heap.size w w' ∧
  ((cauU (h.bun l) = 0 ∧ cauU (h.bun (putB l x)) = 0 ∧ ∃ (A : Option Addr) (n c : Nat), e = .returned (.tuple #[bunV h A n c, .int .i64 0]) ∧ RdL w' w'.heap.size A n (putB l x) ∧ n ≤ c) ∨
   (¬ (cauU (h.bun l) = 0 ∧ cauU (h.bun (putB l x)) = 0) ∧ e = .returned (.tuple #[.agg #[.int .u64 0, .int .i64 0, .int .i64 0, .string ⟨#[]⟩, .int .u64 0, .int .u64 0, .int .i64 0, .string ⟨#[]⟩, .int .u64 0, .int .u64 0, .int .i64 0, .string ⟨#[]⟩, .int .u64 0, .int .u64 0, .int .u64 0, .int .u64 0, .int .u64 0, .slice none 0 0], .int .i64 (if cauU (h.bun l) = 0 then cauU (h.bun (putB l x)) else cauU (h.bun l))])))
set_option maxRecDepth 100000 in
set_option maxHeartbeats 32000000 in
theorem rputU_any (h : BH) (l : List Blk) (A : Option Addr) (n c B : Nat) (x : Blk) (Ax : Option Addr) (nx cx : Nat) (w : World) (hd : h.Bd) (hr : RdL w B A n l) (hB : B ≤ w.heap.size) (hc : n ≤ c) (hx : Bd x) (hnx : nx ≤ cx ∧ nx ≤ 140737488355328) (hrx : Rd w B Ax nx x.dat) :
    Calls Tryz.prog 64 #[bunV h A n c, blkV x.typ x.num x.flg x.crc Ax nx cx] w (PutR h l x w) := by
  have HB0 := Lib.hid ((((Below.refl w.heap.size w).alloc (Nat.le_refl _) (.cells #[.int .u64 (h.flg : Int), .int .i64 h.crc, .int .i64 h.dsc, .string h.dnm, .int .u64 (h.dn : Int), .int .u64 (h.dv : Int), .int .i64 h.ssc, .string h.snm, .int .u64 (h.sn : Int), .int .u64 (h.sv : Int), .int .i64 h.rsc, .string h.rnm, .int .u64 (h.rn : Int), .int .u64 (h.rv : Int), .int .u64 (h.tim : Int), .int .u64 (h.seq : Int), .int .u64 (h.lif : Int), .slice A n c] 73)).alloc (le_alloc _ _) (.cells #[.int .u64 (x.typ : Int), .int .u64 (x.num : Int), .int .u64 (x.flg : Int), .int .i64 x.crc, .slice Ax nx cx] 48)).alloc (Nat.le_trans (le_alloc _ _) (le_alloc _ _)) (.cells #[.int .u64 0, .int .i64 0, .int .i64 0, .string ⟨#[]⟩, .int .u64 0, .int .u64 0, .int .i64 0, .string ⟨#[]⟩, .int .u64 0, .int .u64 0, .int .i64 0, .string ⟨#[]⟩, .int .u64 0, .int .u64 0, .int .u64 0, .int .u64 0, .int .u64 0, .slice none 0 0] 73))
  have HW0 : Hid (Below (w.heap.size + 3) (((w.alloc (.cells #[.int .u64 (h.flg : Int), .int .i64 h.crc, .int .i64 h.dsc, .string h.dnm, .int .u64 (h.dn : Int), .int .u64 (h.dv : Int), .int .i64 h.ssc, .string h.snm, .int .u64 (h.sn : Int), .int .u64 (h.sv : Int), .int .i64 h.rsc, .string h.rnm, .int .u64 (h.rn : Int), .int .u64 (h.rv : Int), .int .u64 (h.tim : Int), .int .u64 (h.seq : Int), .int .u64 (h.lif : Int), .slice A n c] 73)).alloc (.cells #[.int .u64 (x.typ : Int), .int .u64 (x.num : Int), .int .u64 (x.flg : Int), .int .i64 x.crc, .slice Ax nx cx] 48)).alloc (.cells #[.int .u64 0, .int .i64 0, .int .i64 0, .string ⟨#[]⟩, .int .u64 0, .int .u64 0, .int .i64 0, .string ⟨#[]⟩, .int .u64 0, .int .u64 0, .int .i64 0, .string ⟨#[]⟩, .int .u64 0, .int .u64 0, .int .u64 0, .int .u64 0, .int .u64 0, .slice none 0 0] 73)) (((w.alloc (.cells #[.int .u64 (h.flg : Int), .int .i64 h.crc, .int .i64 h.dsc, .string h.dnm, .int .u64 (h.dn : Int), .int .u64 (h.dv : Int), .int .i64 h.ssc, .string h.snm, .int .u64 (h.sn : Int), .int .u64 (h.sv : Int), .int .i64 h.rsc, .string h.rnm, .int .u64 (h.rn : Int), .int .u64 (h.rv : Int), .int .u64 (h.tim : Int), .int .u64 (h.seq : Int), .int .u64 (h.lif : Int), .slice A n c] 73)).alloc (.cells #[.int .u64 (x.typ : Int), .int .u64 (x.num : Int), .int .u64 (x.flg : Int), .int .i64 x.crc, .slice Ax nx cx] 48)).alloc (.cells #[.int .u64 0, .int .i64 0, .int .i64 0, .string ⟨#[]⟩, .int .u64 0, .int .u64 0, .int .i64 0, .string ⟨#[]⟩, .int .u64 0, .int .u64 0, .int .i64 0, .string ⟨#[]⟩, .int .u64 0, .int .u64 0, .int .u64 0, .int .u64 0, .int .u64 0, .slice none 0 0] 73))) := Below.refl _ _
  have HS0 : Hid ((((w.alloc (.cells #[.int .u64 (h.flg : Int), .int .i64 h.crc, .int .i64 h.dsc, .string h.dnm, .int .u64 (h.dn : Int), .int .u64 (h.dv : Int), .int .i64 h.ssc, .string h.snm, .int .u64 (h.sn : Int), .int .u64 (h.sv : Int), .int .i64 h.rsc, .string h.rnm, .int .u64 (h.rn : Int), .int .u64 (h.rv : Int), .int .u64 (h.tim : Int), .int .u64 (h.seq : Int), .int .u64 (h.lif : Int), .slice A n c] 73)).alloc (.cells #[.int .u64 (x.typ : Int), .int .u64 (x.num : Int), .int .u64 (x.flg : Int), .int .i64 x.crc, .slice Ax nx cx] 48)).alloc (.cells #[.int .u64 0, .int .i64 0, .int .i64 0, .string ⟨#[]⟩, .int .u64 0, .int .u64 0, .int .i64 0, .string ⟨#[]⟩, .int .u64 0, .int .u64 0, .int .i64 0, .string ⟨#[]⟩, .int .u64 0, .int .u64 0, .int .u64 0, .int .u64 0, .int .u64 0, .slice none 0 0] 73)).heap.size = w.heap.size + 3) := by show _ = _; simp
  have HX1 := Lib.hid (fun (W : World) (hb : Below (w.heap.size + 3) (((w.alloc (.cells #[.int .u64 (h.flg : Int), .int .i64 h.crc, .int .i64 h.dsc, .string h.dnm, .int .u64 (h.dn : Int), .int .u64 (h.dv : Int), .int .i64 h.ssc, .string h.snm, .int .u64 (h.sn : Int), .int .u64 (h.sv : Int), .int .i64 h.rsc, .string h.rnm, .int .u64 (h.rn : Int), .int .u64 (h.rv : Int), .int .u64 (h.tim : Int), .int .u64 (h.seq : Int), .int .u64 (h.lif : Int), .slice A n c] 73)).alloc (.cells #[.int .u64 (x.typ : Int), .int .u64 (x.num : Int), .int .u64 (x.flg : Int), .int .i64 x.crc, .slice Ax nx cx] 48)).alloc (.cells #[.int .u64 0, .int .i64 0, .int .i64 0, .string ⟨#[]⟩, .int .u64 0, .int .u64 0, .int .i64 0, .string ⟨#[]⟩, .int .u64 0, .int .u64 0, .int .i64 0, .string ⟨#[]⟩, .int .u64 0, .int .u64 0, .int .u64 0, .int .u64 0, .int .u64 0, .slice none 0 0] 73)) W) => (row_of_box (w := w) (g := w.heap.size) rfl ((((Below.refl (w.heap.size + 1) (w.alloc (.cells #[.int .u64 (h.flg : Int), .int .i64 h.crc, .int .i64 h.dsc, .string h.dnm, .int .u64 (h.dn : Int), .int .u64 (h.dv : Int), .int .i64 h.ssc, .string h.snm, .int .u64 (h.sn : Int), .int .u64 (h.sv : Int), .int .i64 h.rsc, .string h.rnm, .int .u64 (h.rn : Int), .int .u64 (h.rv : Int), .int .u64 (h.tim : Int), .int .u64 (h.seq : Int), .int .u64 (h.lif : Int), .slice A n c] 73))).alloc (by simp) (.cells #[.int .u64 (x.typ : Int), .int .u64 (x.num : Int), .int .u64 (x.flg : Int), .int .i64 x.crc, .slice Ax nx cx] 48)).alloc (by simp) (.cells #[.int .u64 0, .int .i64 0, .int .i64 0, .string ⟨#[]⟩, .int .u64 0, .int .u64 0, .int .i64 0, .string ⟨#[]⟩, .int .u64 0, .int .u64 0, .int .i64 0, .string ⟨#[]⟩, .int .u64 0, .int .u64 0, .int .u64 0, .int .u64 0, .int .u64 0, .slice none 0 0] 73)).trans (hb.mono (by omega)))))
  have HX3 := Lib.hid (fun (W : World) (hb : Below (w.heap.size + 3) (((w.alloc (.cells #[.int .u64 (h.flg : Int), .int .i64 h.crc, .int .i64 h.dsc, .string h.dnm, .int .u64 (h.dn : Int), .int .u64 (h.dv : Int), .int .i64 h.ssc, .string h.snm, .int .u64 (h.sn : Int), .int .u64 (h.sv : Int), .int .i64 h.rsc, .string h.rnm, .int .u64 (h.rn : Int), .int .u64 (h.rv : Int), .int .u64 (h.tim : Int), .int .u64 (h.seq : Int), .int .u64 (h.lif : Int), .slice A n c] 73)).alloc (.cells #[.int .u64 (x.typ : Int), .int .u64 (x.num : Int), .int .u64 (x.flg : Int), .int .i64 x.crc, .slice Ax nx cx] 48)).alloc (.cells #[.int .u64 0, .int .i64 0, .int .i64 0, .string ⟨#[]⟩, .int .u64 0, .int .u64 0, .int .i64 0, .string ⟨#[]⟩, .int .u64 0, .int .u64 0, .int .i64 0, .string ⟨#[]⟩, .int .u64 0, .int .u64 0, .int .u64 0, .int .u64 0, .int .u64 0, .slice none 0 0] 73)) W) => (row_of_box (w := w.alloc (.cells #[.int .u64 (h.flg : Int), .int .i64 h.crc, .int .i64 h.dsc, .string h.dnm, .int .u64 (h.dn : Int), .int .u64 (h.dv : Int), .int .i64 h.ssc, .string h.snm, .int .u64 (h.sn : Int), .int .u64 (h.sv : Int), .int .i64 h.rsc, .string h.rnm, .int .u64 (h.rn : Int), .int .u64 (h.rv : Int), .int .u64 (h.tim : Int), .int .u64 (h.seq : Int), .int .u64 (h.lif : Int), .slice A n c] 73)) (g := w.heap.size + 1) (by simp) (((Below.refl (w.heap.size + 2) ((w.alloc (.cells #[.int .u64 (h.flg : Int), .int .i64 h.crc, .int .i64 h.dsc, .string h.dnm, .int .u64 (h.dn : Int), .int .u64 (h.dv : Int), .int .i64 h.ssc, .string h.snm, .int .u64 (h.sn : Int), .int .u64 (h.sv : Int), .int .i64 h.rsc, .string h.rnm, .int .u64 (h.rn : Int), .int .u64 (h.rv : Int), .int .u64 (h.tim : Int), .int .u64 (h.seq : Int), .int .u64 (h.lif : Int), .slice A n c] 73)).alloc (.cells #[.int .u64 (x.typ : Int), .int .u64 (x.num : Int), .int .u64 (x.flg : Int), .int .i64 x.crc, .slice Ax nx cx] 48))).alloc (by simp) (.cells #[.int .u64 0, .int .i64 0, .int .i64 0, .string ⟨#[]⟩, .int .u64 0, .int .u64 0, .int .i64 0, .string ⟨#[]⟩, .int .u64 0, .int .u64 0, .int .i64 0, .string ⟨#[]⟩, .int .u64 0, .int .u64 0, .int .u64 0, .int .u64 0, .int .u64 0, .slice none 0 0] 73)).trans (hb.mono (by omega)))))
  have HX2 := Lib.hid (fun (W : World) (hb : Below (w.heap.size + 3) (((w.alloc (.cells #[.int .u64 (h.flg : Int), .int .i64 h.crc, .int .i64 h.dsc, .string h.dnm, .int .u64 (h.dn : Int), .int .u64 (h.dv : Int), .int .i64 h.ssc, .string h.snm, .int .u64 (h.sn : Int), .int .u64 (h.sv : Int), .int .i64 h.rsc, .string h.rnm, .int .u64 (h.rn : Int), .int .u64 (h.rv : Int), .int .u64 (h.tim : Int), .int .u64 (h.seq : Int), .int .u64 (h.lif : Int), .slice A n c] 73)).alloc (.cells #[.int .u64 (x.typ : Int), .int .u64 (x.num : Int), .int .u64 (x.flg : Int), .int .i64 x.crc, .slice Ax nx cx] 48)).alloc (.cells #[.int .u64 0, .int .i64 0, .int .i64 0, .string ⟨#[]⟩, .int .u64 0, .int .u64 0, .int .i64 0, .string ⟨#[]⟩, .int .u64 0, .int .u64 0, .int .i64 0, .string ⟨#[]⟩, .int .u64 0, .int .u64 0, .int .u64 0, .int .u64 0, .int .u64 0, .slice none 0 0] 73)) W) => (row_of_box (w := (w.alloc (.cells #[.int .u64 (h.flg : Int), .int .i64 h.crc, .int .i64 h.dsc, .string h.dnm, .int .u64 (h.dn : Int), .int .u64 (h.dv : Int), .int .i64 h.ssc, .string h.snm, .int .u64 (h.sn : Int), .int .u64 (h.sv : Int), .int .i64 h.rsc, .string h.rnm, .int .u64 (h.rn : Int), .int .u64 (h.rv : Int), .int .u64 (h.tim : Int), .int .u64 (h.seq : Int), .int .u64 (h.lif : Int), .slice A n c] 73)).alloc (.cells #[.int .u64 (x.typ : Int), .int .u64 (x.num : Int), .int .u64 (x.flg : Int), .int .i64 x.crc, .slice Ax nx cx] 48)) (g := w.heap.size + 2) (by simp) hb))
  have C1 := Lib.hid (rcheckU_any h l A n c B (((w.alloc (.cells #[.int .u64 (h.flg : Int), .int .i64 h.crc, .int .i64 h.dsc, .string h.dnm, .int .u64 (h.dn : Int), .int .u64 (h.dv : Int), .int .i64 h.ssc, .string h.snm, .int .u64 (h.sn : Int), .int .u64 (h.sv : Int), .int .i64 h.rsc, .string h.rnm, .int .u64 (h.rn : Int), .int .u64 (h.rv : Int), .int .u64 (h.tim : Int), .int .u64 (h.seq : Int), .int .u64 (h.lif : Int), .slice A n c] 73)).alloc (.cells #[.int .u64 (x.typ : Int), .int .u64 (x.num : Int), .int .u64 (x.flg : Int), .int .i64 x.crc, .slice Ax nx cx] 48)).alloc (.cells #[.int .u64 0, .int .i64 0, .int .i64 0, .string ⟨#[]⟩, .int .u64 0, .int .u64 0, .int .i64 0, .string ⟨#[]⟩, .int .u64 0, .int .u64 0, .int .i64 0, .string ⟨#[]⟩, .int .u64 0, .int .u64 0, .int .u64 0, .int .u64 0, .int .u64 0, .slice none 0 0] 73)) hd (hr.below (HB0.out.mono hB)) (Nat.le_trans hB HB0.out.size))
  have HR := Lib.hid (And.intro hr (And.intro hB (And.intro hc hd)))
  have HN := Lib.hid hr.1
  have HXX := Lib.hid (And.intro hx (And.intro hnx hrx))
  have HG : Hid (∀ e w', (Below w.heap.size w w' ∧
  ((cauU (h.bun l) = 0 ∧ cauU (h.bun (putB l x)) = 0 ∧ ∃ (A : Option Addr) (n c : Nat), e = .returned (.tuple #[bunV h A n c, .int .i64 0]) ∧ RdL w' w'.heap.size A n (putB l x) ∧ n ≤ c) ∨
   (¬ (cauU (h.bun l) = 0 ∧ cauU (h.bun (putB l x)) = 0) ∧ e = .returned (.tuple #[.agg #[.int .u64 0, .int .i64 0, .int .i64 0, .string ⟨#[]⟩, .int .u64 0, .int .u64 0, .int .i64 0, .string ⟨#[]⟩, .int .u64 0, .int .u64 0, .int .i64 0, .string ⟨#[]⟩, .int .u64 0, .int .u64 0, .int .u64 0, .int .u64 0, .int .u64 0, .slice none 0 0], .int .i64 (if cauU (h.bun l) = 0 then cauU (h.bun (putB l x)) else cauU (h.bun l))])))) → PutR h l x w e w') := fun _ _ hh => hh
  clear hr hB hc hd hx hnx hrx
  by_cases hz : cauU (h.bun l) = 0
  case neg =>
    have HZ := Lib.hid hz
    have HE : Hid (cauU (h.bun l) = (if cauU (h.bun l) = 0 then cauU (h.bun (putB l x)) else cauU (h.bun l))) := (if_neg hz).symm
    have hz1 : (cauU (h.bun l) != 0) = true := by simp [hz]
    have hz2 : (cauU (h.bun l) == 0) = false := by simp [hz]
    generalize cauU (h.bun l) = z at *
    unfold bunV blkV at *
    go_enter Tryz.func64, Tryz.ntmps64
    go_wp2_with (first
      | (refine wpList_ld18 rfl (.tmp 2) rfl _ rfl _ _ (HX1.out _ HW0.out) rfl ?_)
      | fail)
    refine C1.out.mono ?_
    rintro e w1 ⟨rfl, hb⟩
    have B1 := Lib.hid (Below.push HW0.out (Nat.le_of_eq HS0.out.symm) hb)
    clear hb
    go_wp2_with (first
      | (refine wpList_st18 rfl 73 (.tmp 4) (.tmp 13) rfl _ rfl rfl _ _ (HX2.out _ B1.out) info_bun rfl rfl ?_; intro W' hrow' _ hoth hbel hsz'; have HWB := Lib.hid (hbel _ _ (HB0.out.trans (B1.out.mono (Nat.le_add_right _ 3))) (Nat.le_add_right _ 2)); clear hbel)
      | fail)
    exact bodyPost_ret (res_bt Tryz.results64 _ _ rfl hrow' rfl) rfl (HG.out _ _ ⟨HWB.out, .inr ⟨fun hh => HZ.out hh.1, (show Ending.returned _ = Ending.returned _ by rw [← HE.out]; rfl)⟩⟩)
  have HL16 : Hid (1 ≤ n ∧ n ≤ 16) := by show _ ∧ _; rw [← HN.out]; exact blksOk_len (cauU_0.1 hz).2.2
  have HZ := Lib.hid hz
  have hl16 := HL16.out
  obtain ⟨b, o, rfl, hb, hks⟩ := HR.out.1.2.1 (by omega)
  obtain ⟨ps, hmap, hcell, hsrc⟩ := hks.pks
  have hlen : ps.length = n := by rw [← HN.out, ← hmap, List.length_map]
  have HP := Lib.hid (And.intro hmap (And.intro hcell (And.intro hsrc hlen)))
  have HH := Lib.hid hb
  obtain ⟨m, hmn⟩ : ∃ m, n = m + 1 := ⟨n - 1, by omega⟩
  have hcn : n ≤ c := HR.out.2.2.1
  have cut1 := fun W => kcutR (some ⟨b, o, none⟩) n c m (by omega) hcn (by omega) W
  obtain ⟨i0, hi0, hz0, hz1, hz2⟩ := info_parts info_blk
  have HI := Lib.hid hi0
  have HZ0 := Lib.hid hz0
  have HZ1 := Lib.hid hz1
  have HZ2 := Lib.hid hz2
  have HLO : Hid ((rowK (ps.take m)).length = m * 5) := by show _ = _; rw [rowK_len, List.length_take, hlen]; congr 1; omega
  have HM : Hid (m + 1 ≤ 16) := by show _ ≤ _; omega
  have HMN := Lib.hid hmn
  clear hi0 hz0 hz1 hz2
  have hw1 : wrap64 ((n : Int) - 1) = (m : Int) := by unfold wrap64; omega
  have hw2 : IntKind.i64.wrap ((n : Int) - 1) = (m : Int) := by rw [IntKind.wrap_i64]; omega
  have hml : m < ps.length := by omega
  have hmi : (m : Int) < (n : Int) := by omega
  have hcc : ∀ j u, (fiveK ps[m])[j]? = some u → w.cell? ⟨b, o + (m * 5 + j), none⟩ = some u := fun j u hj => hcell _ u (rowK_drop (k := m) (by omega) (by rw [List.drop_eq_getElem_cons hml, rowK, List.getElem?_append_left]; exact hj; rcases Nat.lt_or_ge j (fiveK ps[m]).length with h | h; exact h; rw [List.getElem?_eq_none h] at hj; cases hj))
  have HCC := Lib.hid hcc
  have HPM : Hid (SrcK w B ps[m]) := hsrc _ (List.getElem_mem hml)
  have HPD : Hid (ps.drop m = [ps[m]]) := by show _ = _; rw [List.drop_eq_getElem_cons hml, List.drop_of_length_le (by omega)]
  generalize ps[m] = pm at *
  obtain ⟨xm, Am, nm, cm⟩ := pm
  clear hmap hcell hsrc hlen hks hb hl16 hcc hml hmn
  have HPUT : Hid ((ps.take m ++ [PK.mk x Ax nx cx, PK.mk xm Am nm cm]).map (fun p => p.x) = putB l x) := by
    show _ = _
    have hlm : l.length - 1 = m := by rw [HN.out, HMN.out]; omega
    have hdm : l.drop m = [xm] := by rw [← HP.out.1, ← List.map_drop, HPD.out]; rfl
    unfold putB
    rw [hlm, hdm, List.map_append, List.map_take, HP.out.1]
    rfl
  have HTL : Hid ((ps.take m).length = m) := by show _ = _; rw [List.length_take, HP.out.2.2.2, HMN.out]; omega
  have HSR := Lib.hid (fun p (hp : p ∈ ps.take m ++ [PK.mk x Ax nx cx, PK.mk xm Am nm cm]) => show SrcK w B p from by
    rcases List.mem_append.1 hp with h | h
    · exact HP.out.2.2.1 p (List.mem_of_mem_take h)
    · simp only [List.mem_cons, List.not_mem_nil, or_false] at h
      rcases h with rfl | rfl
      · exact HXX.out
      · exact HPM.out)
  have CK := Lib.hid (fun (g cap : Nat) (W : World) (hr : RdL W W.heap.size (some ⟨g, 0, none⟩) (m + 2) (putB l x)) => rcheckU_any h (putB l x) (some ⟨g, 0, none⟩) (m + 2) cap W.heap.size W HR.out.2.2.2 hr (Nat.le_refl _))
  have HIF : Hid ((if cauU (h.bun l) = 0 then cauU (h.bun (putB l x)) else cauU (h.bun l)) = cauU (h.bun (putB l x))) := if_pos hz
  generalize cauU (h.bun l) = z at *
  subst hz
  generalize cauU (h.bun (putB l x)) = Z2 at *
  unfold bunV blkV at *
  go_enter Tryz.func64, Tryz.ntmps64
  go_wp2_with (first
    | (refine wpList_ld18 rfl (.tmp 2) rfl _ rfl _ _ (HX1.out _ HW0.out) rfl ?_)
    | fail)
  refine C1.out.mono ?_
  rintro e w2 ⟨rfl, hb⟩
  have B2 := Lib.hid (Below.push HW0.out (Nat.le_of_eq HS0.out.symm) hb)
  clear hb
  have x17 := cell_row (HX1.out _ B2.out) 17 rfl
  have HZN : Hid ((w2.alloc (.cells #[.int .u64 0, .int .i64 0, .int .i64 0, .string ⟨#[]⟩, .int .u64 0, .int .u64 0, .int .i64 0, .string ⟨#[]⟩, .int .u64 0, .int .u64 0, .int .i64 0, .string ⟨#[]⟩, .int .u64 0, .int .u64 0, .int .u64 0, .int .u64 0, .int .u64 0, .slice none 0 0] 73)).heap[w2.heap.size]? = _) := heap_alloc_new w2 (.cells #[.int .u64 0, .int .i64 0, .int .i64 0, .string ⟨#[]⟩, .int .u64 0, .int .u64 0, .int .i64 0, .string ⟨#[]⟩, .int .u64 0, .int .u64 0, .int .i64 0, .string ⟨#[]⟩, .int .u64 0, .int .u64 0, .int .u64 0, .int .u64 0, .int .u64 0, .slice none 0 0] 73)
  go_wp2_with (first
    | (refine wpList_ld18 rfl (.tmp 2) rfl _ rfl _ _ (HX1.out _ B2.out) rfl ?_)
    | (refine wpList_st18 rfl 73 (.tmp 8) (.tmp 18) rfl _ rfl rfl _ _ HZN.out info_bun rfl rfl ?_; intro w3 hrow3 _ hoth3 hbel3 hsz3)
    | fail)
  have B23 : Below w2.heap.size w2 w3 := hbel3 _ _ ((Below.refl w2.heap.size w2).alloc (Nat.le_refl _) _) (Nat.le_refl _)
  have B3 := Lib.hid (Below.push B2.out (Nat.le_of_eq HS0.out.symm) B23)
  have HSZ3 : Hid (w3.heap.size = w2.heap.size + 1) := by show _ = _; rw [hsz3]; simp
  have HROW3 := Lib.hid hrow3
  have HSZ2 : Hid (w.heap.size + 3 ≤ w2.heap.size) := by show _ ≤ _; have := B2.out.size; have := HS0.out; omega
  have HXC := Lib.hid (fun (W : World) (hb : Below w2.heap.size w2 W) => cell_row (HX1.out _ (Below.push B2.out (Nat.le_of_eq HS0.out.symm) hb)) 17 rfl)
  have HXY := Lib.hid (fun (W : World) (hb : Below w2.heap.size w2 W) => HX3.out _ (Below.push B2.out (Nat.le_of_eq HS0.out.symm) hb))
  have SX : Hid (∀ W, Below w3.heap.size w3 W → Below w2.heap.size w2 W) := fun W hb => B23.trans (hb.mono B23.size)
  have HWV := Lib.hid (fun (W : World) (hb : Below w2.heap.size w2 W) => HB0.out.trans ((Below.push B2.out (Nat.le_of_eq HS0.out.symm) hb).mono (Nat.le_add_right _ 3)))
  have HWW := Lib.hid (fun (W : World) (hb : Below w3.heap.size w3 W) => HB0.out.trans ((Below.push B3.out (Nat.le_of_eq HS0.out.symm) hb).mono (Nat.le_add_right _ 3)))
  have HOL := Lib.hid (fun (W : World) (hb : Below w3.heap.size w3 W) => show ∀ j u, (rowK (ps.take m))[j]? = some u → W.cell? ((⟨b, o, none⟩ : Addr).add j) = some u from fun j u hj => by
    rw [addr_add, (HWW.out _ hb).cell (p := ⟨b, o + j, none⟩) (Nat.lt_of_lt_of_le HH.out HR.out.2.1)]
    exact HP.out.2.1 j u (rowK_take (by have := HP.out.2.2.2; have := HMN.out; omega) hj))
  have HMC := Lib.hid (fun (W : World) (hb : Below w2.heap.size w2 W) => show ∀ j u, (fiveK (PK.mk xm Am nm cm))[j]? = some u → W.cell? ⟨b, o + m * 5 + j, none⟩ = some u from fun j u hj => by
    rw [Nat.add_assoc, (HWV.out _ hb).cell (p := ⟨b, o + (m * 5 + j), none⟩) (Nat.lt_of_lt_of_le HH.out HR.out.2.1)]
    exact HCC.out j u hj)
  clear x17 hrow3 hoth3 hbel3 hsz3 B23
  have BT0 : Hid (Below w3.heap.size w3 w3) := Below.refl _ _
  try simp only [Act.put]
  try simp only [List.setIfInBounds_toArray]
  try simp only [List.set_cons_succ]
  try simp only [List.set_cons_zero]
  go_cut [] from 19 to 38 (fun wx => Hid (∃ (g cap : Nat) (wd : World), wx = wd.setCell ⟨w2.heap.size, 17, none⟩ (.slice (some ⟨g, 0, none⟩) (m + 2) cap) ∧ Below w3.heap.size w3 wd ∧ wd.ownsRow w3.heap.size 48 5 (.slice (some ⟨g, 0, none⟩) (m + 2) cap) (m + 2) (rowK (ps.take m ++ [PK.mk x Ax nx cx, PK.mk xm Am nm cm]))))
  case first =>
    go_wp2_with fail
    refine wp_region_held_drew (S := fun W => Below w2.heap.size w2 W) (by kernel_rfl) (SX.out _ Below.drew_) (fun hHeld => ?_)
    refine takeR (i := 1) (v := ?v1_1) rfl (by kernel_rfl) (by kernel_rfl) (by kernel_rfl) (fun _ _ _ h => h) (by rfl) ?hy1_1 (by assumption) ?rest1_1
    case hy1_1 => (intro W hSw; go_simp; try with_reducible rfl)
    try simp only [Act.put]
    try simp only [List.setIfInBounds_toArray]
    try simp only [List.set_cons_succ]
    try simp only [List.set_cons_zero]
    refine takeR (i := 2) (v := ?v2_2) rfl (by kernel_rfl) (by kernel_rfl) (by kernel_rfl) (fun _ _ _ h => h) (by rfl) ?hy2_2 (by assumption) ?rest2_2
    case hy2_2 => (intro W hSw; have x17 := HXC.out W hSw; go_simp; try with_reducible rfl)
    try simp only [Act.put]
    try simp only [List.setIfInBounds_toArray]
    try simp only [List.set_cons_succ]
    try simp only [List.set_cons_zero]
    refine takeR (i := 3) (v := ?v3_3) rfl (by kernel_rfl) (by kernel_rfl) (by kernel_rfl) (fun _ _ _ h => h) (by rfl) ?hy3_3 (by assumption) ?rest3_3
    case hy3_3 => (intro W hSw; go_simp; try with_reducible rfl)
    try simp only [Act.put]
    try simp only [List.setIfInBounds_toArray]
    try simp only [List.set_cons_succ]
    try simp only [List.set_cons_zero]
    refine takeR (i := 4) (v := ?v4_4) rfl (by kernel_rfl) (by kernel_rfl) (by kernel_rfl) (fun _ _ _ h => h) (by rfl) ?hy4_4 (by assumption) ?rest4_4
    case hy4_4 => (intro W hSw; go_simp; try with_reducible rfl)
    try simp only [Act.put]
    try simp only [List.setIfInBounds_toArray]
    try simp only [List.set_cons_succ]
    try simp only [List.set_cons_zero]
    refine takeR (i := 5) (v := ?v5_5) rfl (by kernel_rfl) (by kernel_rfl) (by kernel_rfl) (fun _ _ _ h => h) (by rfl) ?hy5_5 (by assumption) ?rest5_5
    case hy5_5 => (intro W hSw; go_simp; try with_reducible rfl)
    try simp only [Act.put]
    try simp only [List.setIfInBounds_toArray]
    try simp only [List.set_cons_succ]
    try simp only [List.set_cons_zero]
    refine takeR (i := 7) (v := ?v7_6) rfl (by kernel_rfl) (by kernel_rfl) (by kernel_rfl) (fun _ _ _ h => h) (by rfl) ?hy7_6 (by assumption) ?rest7_6
    case hy7_6 => (intro W hSw; have hr3 := HXY.out W hSw; have y0 := cell_row hr3 0 rfl; have y1 := cell_row hr3 1 rfl; have y2 := cell_row hr3 2 rfl; have y3 := cell_row hr3 3 rfl; have y4 := cell_row hr3 4 rfl; go_simp; try with_reducible rfl)
    try simp only [Act.put]
    try simp only [List.setIfInBounds_toArray]
    try simp only [List.set_cons_succ]
    try simp only [List.set_cons_zero]
    refine takeR (i := 10) (v := ?v10_7) rfl (by kernel_rfl) (by kernel_rfl) (by kernel_rfl) (fun _ _ _ h => h) (by rfl) ?hy10_7 (by assumption) ?rest10_7
    case hy10_7 => (intro W hSw; go_simp; try with_reducible rfl)
    try simp only [Act.put]
    try simp only [List.setIfInBounds_toArray]
    try simp only [List.set_cons_succ]
    try simp only [List.set_cons_zero]
    refine takeR (i := 11) (v := ?v11_8) rfl (by kernel_rfl) (by kernel_rfl) (by kernel_rfl) (fun _ _ _ h => h) (by rfl) ?hy11_8 (by assumption) ?rest11_8
    case hy11_8 => (intro W hSw; have x17 := HXC.out W hSw; go_simp; try with_reducible rfl)
    try simp only [Act.put]
    try simp only [List.setIfInBounds_toArray]
    try simp only [List.set_cons_succ]
    try simp only [List.set_cons_zero]
    refine takeR (i := 12) (v := ?v12_9) rfl (by kernel_rfl) (by kernel_rfl) (by kernel_rfl) (fun _ _ _ h => h) (by rfl) ?hy12_9 (by assumption) ?rest12_9
    case hy12_9 => (intro W hSw; go_simp; try with_reducible rfl)
    try simp only [Act.put]
    try simp only [List.setIfInBounds_toArray]
    try simp only [List.set_cons_succ]
    try simp only [List.set_cons_zero]
    refine takeR (i := 13) (v := ?v13_10) rfl (by kernel_rfl) (by kernel_rfl) (by kernel_rfl) (fun _ _ _ h => h) (by rfl) ?hy13_10 (by assumption) ?rest13_10
    case hy13_10 => (intro W hSw; go_simp; try with_reducible rfl)
    try simp only [Act.put]
    try simp only [List.setIfInBounds_toArray]
    try simp only [List.set_cons_succ]
    try simp only [List.set_cons_zero]
    refine takeR (i := 14) (v := ?v14_11) rfl (by kernel_rfl) (by kernel_rfl) (by kernel_rfl) (fun _ _ _ h => h) (by rfl) ?hy14_11 (by assumption) ?rest14_11
    case hy14_11 => (intro W hSw; go_simp; try with_reducible rfl)
    try simp only [Act.put]
    try simp only [List.setIfInBounds_toArray]
    try simp only [List.set_cons_succ]
    try simp only [List.set_cons_zero]
    refine takeR (i := 15) (v := ?v15_12) rfl (by kernel_rfl) (by kernel_rfl) (by kernel_rfl) (fun _ _ _ h => h) (by rfl) ?hy15_12 (by assumption) ?rest15_12
    case hy15_12 => (intro W hSw; have hm5 := HMC.out W hSw; have z0 : W.cell? ⟨b, o + m * 5, none⟩ = some (.int .u64 (xm.typ : Int)) := hm5 0 _ rfl; have z1 : W.cell? ⟨b, o + m * 5 + 1, none⟩ = some (.int .u64 (xm.num : Int)) := hm5 1 _ rfl; have z2 : W.cell? ⟨b, o + m * 5 + 2, none⟩ = some (.int .u64 (xm.flg : Int)) := hm5 2 _ rfl; have z3 : W.cell? ⟨b, o + m * 5 + 3, none⟩ = some (.int .i64 xm.crc) := hm5 3 _ rfl; have z4 : W.cell? ⟨b, o + m * 5 + 4, none⟩ = some (.slice Am nm cm) := hm5 4 _ rfl; go_simp; try with_reducible rfl)
    try simp only [Act.put]
    try simp only [List.setIfInBounds_toArray]
    try simp only [List.set_cons_succ]
    try simp only [List.set_cons_zero]
    have BT : Hid (Below w3.heap.size w3 w3.drew) := Below.drew_
    clear hHeld
    obtain ⟨wc, hwc⟩ : ∃ wc, wc = w3.drew := ⟨_, rfl⟩
    rw [← hwc] at BT
    rw [← hwc]
    clear hwc
    refine wpAnyH_ready (rs := [0, 8, 16]) (by kernel_rfl) (by simp) ?_
    refine AllReadyH.cons rfl (fun K hK => ?_) ?_
    · skip
      rw [if_pos (by rfl)]
      go_simp
      have OC : Hid ((wc.alloc (.cells #[] 48)).ownsRow w3.heap.size 48 5 (.slice (some ⟨wc.heap.size, 0, none⟩) 0 0) 0 []) := World.ownsRow_lit (base := w3.heap.size) (e := 48) (size := 5) wc #[] 0 BT.out.size (by decide) rfl
      have BN : Hid (Below w3.heap.size w3 (wc.alloc (.cells #[] 48))) := BT.out.alloc BT.out.size _
      clear BT
      have BT := BN
      clear BN
      refine hK.out _ _ (SX.out _ BT.out) (fun hHeld => ?_)
      try simp only [Act.put]
      try simp only [List.setIfInBounds_toArray]
      try simp only [List.set_cons_succ]
      try simp only [List.set_cons_zero]
      clear hK K hHeld
      generalize wc.alloc (.cells #[] 48) = wd at *
      generalize wc.heap.size = g at *
      clear wc
      obtain ⟨wc, rfl⟩ : ∃ wc, wc = wd := ⟨_, rfl⟩
      refine wpAnyH_ready (rs := [6, 8, 16]) (by kernel_rfl) (by simp) ?_
      refine AllReadyH.cons rfl (fun K hK => ?_) ?_
      · skip
        refine step_append_z (by rfl) (.tmp 19) (.tmp 24) 71 (by rfl) w3.heap.size 48 i0 _ 5 56 Tryz.underlying71 HI.out HZ0.out HZ1.out HZ2.out rfl (by decide) g 0 0 [] (by rfl) OC.out ⟨b, o, none⟩ m c (rowK (ps.take m)) (by rfl) HLO.out (HOL.out _ BT.out) (rowK_one _) (by have := HM.out; unfold maxLen; omega) (by have := HM.out; omega) BT.out.size ?_
        intro g' cap' wd ho hg hat hlt
        rw [Nat.zero_add, List.nil_append] at ho; rw [Nat.zero_add]
        have OC2 := Lib.hid ho
        have BN : Hid (Below w3.heap.size w3 wd) := grownOwn BT.out BT.out.size hg (owns_base OC.out)
        clear BT OC ho hg hat hlt
        have BT := BN
        have OC := OC2
        clear BN OC2
        refine hK.out _ _ (SX.out _ BT.out) (fun hHeld => ?_)
        try simp only [Act.put]
        try simp only [List.setIfInBounds_toArray]
        try simp only [List.set_cons_succ]
        try simp only [List.set_cons_zero]
        clear hK K hHeld
        clear wc
        obtain ⟨wc, rfl⟩ : ∃ wc, wc = wd := ⟨_, rfl⟩
        obtain ⟨g, rfl⟩ : ∃ g, g = g' := ⟨_, rfl⟩
        obtain ⟨cap, rfl⟩ : ∃ cap, cap = cap' := ⟨_, rfl⟩
        refine wpAnyH_ready (rs := [8, 16]) (by kernel_rfl) (by simp) ?_
        refine AllReadyH.cons rfl (fun K hK => ?_) ?_
        · skip
          rw [if_pos (by rfl)]
          go_simp
          have RX : Hid (RowAt (wc.alloc (.cells #[.int .u64 (x.typ : Int), .int .u64 (x.num : Int), .int .u64 (x.flg : Int), .int .i64 x.crc, .slice Ax nx cx] 48)) wc.heap.size [.int .u64 (x.typ : Int), .int .u64 (x.num : Int), .int .u64 (x.flg : Int), .int .i64 x.crc, .slice Ax nx cx]) := RowAt.made wc #[.int .u64 (x.typ : Int), .int .u64 (x.num : Int), .int .u64 (x.flg : Int), .int .i64 x.crc, .slice Ax nx cx] 48
          have NX : Hid (wc.heap.size ≠ g) := by show _ ≠ _; have := owns_lt OC.out; omega
          have OC2 := Lib.hid (World.ownsRow.alloc OC.out (.cells #[.int .u64 (x.typ : Int), .int .u64 (x.num : Int), .int .u64 (x.flg : Int), .int .i64 x.crc, .slice Ax nx cx] 48))
          clear OC
          have OC := OC2
          clear OC2
          have BN : Hid (Below w3.heap.size w3 (wc.alloc (.cells #[.int .u64 (x.typ : Int), .int .u64 (x.num : Int), .int .u64 (x.flg : Int), .int .i64 x.crc, .slice Ax nx cx] 48))) := BT.out.alloc BT.out.size _
          clear BT
          have BT := BN
          clear BN
          refine hK.out _ _ (SX.out _ BT.out) (fun hHeld => ?_)
          try simp only [Act.put]
          try simp only [List.setIfInBounds_toArray]
          try simp only [List.set_cons_succ]
          try simp only [List.set_cons_zero]
          clear hK K hHeld
          generalize wc.alloc (.cells #[.int .u64 (x.typ : Int), .int .u64 (x.num : Int), .int .u64 (x.flg : Int), .int .i64 x.crc, .slice Ax nx cx] 48) = wd at *
          generalize wc.heap.size = gx at *
          clear wc
          obtain ⟨wc, rfl⟩ : ∃ wc, wc = wd := ⟨_, rfl⟩
          refine wpAnyH_ready (rs := [9, 16]) (by kernel_rfl) (by simp) ?_
          refine AllReadyH.cons rfl (fun K hK => ?_) ?_
          · skip
            refine step_append_z (by rfl) (.tmp 25) (.tmp 27) 71 (by rfl) w3.heap.size 48 i0 _ 5 56 Tryz.underlying71 HI.out HZ0.out HZ1.out HZ2.out rfl (by decide) g cap m (rowK (ps.take m)) (by rfl) OC.out ⟨gx, 0, none⟩ 1 1 [.int .u64 (x.typ : Int), .int .u64 (x.num : Int), .int .u64 (x.flg : Int), .int .i64 x.crc, .slice Ax nx cx] (by rfl) rfl RX.out.2 (rowK_one [PK.mk x Ax nx cx]) (by have := HM.out; unfold maxLen; omega) (by have := HM.out; omega) BT.out.size ?_
            intro g' cap' wd ho hg hat hlt
            have OC2 := Lib.hid ho
            have BN : Hid (Below w3.heap.size w3 wd) := grownOwn BT.out BT.out.size hg (owns_base OC.out)
            clear BT OC ho hg hat hlt RX NX
            have BT := BN
            have OC := OC2
            clear BN OC2
            refine hK.out _ _ (SX.out _ BT.out) (fun hHeld => ?_)
            try simp only [Act.put]
            try simp only [List.setIfInBounds_toArray]
            try simp only [List.set_cons_succ]
            try simp only [List.set_cons_zero]
            clear hK K hHeld
            clear wc
            obtain ⟨wc, rfl⟩ : ∃ wc, wc = wd := ⟨_, rfl⟩
            obtain ⟨g, rfl⟩ : ∃ g, g = g' := ⟨_, rfl⟩
            obtain ⟨cap, rfl⟩ : ∃ cap, cap = cap' := ⟨_, rfl⟩
            refine wpAnyH_ready (rs := [16]) (by kernel_rfl) (by simp) ?_
            refine AllReadyH.cons rfl (fun K hK => ?_) AllReadyH.nil
            rw [if_pos (by rfl)]
            go_simp
            have RY : Hid (RowAt (wc.alloc (.cells #[.int .u64 (xm.typ : Int), .int .u64 (xm.num : Int), .int .u64 (xm.flg : Int), .int .i64 xm.crc, .slice Am nm cm] 48)) wc.heap.size [.int .u64 (xm.typ : Int), .int .u64 (xm.num : Int), .int .u64 (xm.flg : Int), .int .i64 xm.crc, .slice Am nm cm]) := RowAt.made wc #[.int .u64 (xm.typ : Int), .int .u64 (xm.num : Int), .int .u64 (xm.flg : Int), .int .i64 xm.crc, .slice Am nm cm] 48
            have NY : Hid (wc.heap.size ≠ g) := by show _ ≠ _; have := owns_lt OC.out; omega
            have OC2 := Lib.hid (World.ownsRow.alloc OC.out (.cells #[.int .u64 (xm.typ : Int), .int .u64 (xm.num : Int), .int .u64 (xm.flg : Int), .int .i64 xm.crc, .slice Am nm cm] 48))
            clear OC
            have OC := OC2
            clear OC2
            have BN : Hid (Below w3.heap.size w3 (wc.alloc (.cells #[.int .u64 (xm.typ : Int), .int .u64 (xm.num : Int), .int .u64 (xm.flg : Int), .int .i64 xm.crc, .slice Am nm cm] 48))) := BT.out.alloc BT.out.size _
            clear BT
            have BT := BN
            clear BN
            refine hK.out _ _ (SX.out _ BT.out) (fun hHeld => ?_)
            try simp only [Act.put]
            try simp only [List.setIfInBounds_toArray]
            try simp only [List.set_cons_succ]
            try simp only [List.set_cons_zero]
            clear hK K hHeld
            generalize wc.alloc (.cells #[.int .u64 (xm.typ : Int), .int .u64 (xm.num : Int), .int .u64 (xm.flg : Int), .int .i64 xm.crc, .slice Am nm cm] 48) = wd at *
            generalize wc.heap.size = gy at *
            clear wc
            obtain ⟨wc, rfl⟩ : ∃ wc, wc = wd := ⟨_, rfl⟩
            refine wpAnyH_ready (rs := [17]) (by kernel_rfl) (by simp) ?_
            refine AllReadyH.cons rfl (fun K hK => ?_) AllReadyH.nil
            refine step_append_z (by rfl) (.tmp 28) (.tmp 35) 71 (by rfl) w3.heap.size 48 i0 _ 5 56 Tryz.underlying71 HI.out HZ0.out HZ1.out HZ2.out rfl (by decide) g cap (m + 1) (rowK (ps.take m) ++ [.int .u64 (x.typ : Int), .int .u64 (x.num : Int), .int .u64 (x.flg : Int), .int .i64 x.crc, .slice Ax nx cx]) (by rfl) OC.out ⟨gy, 0, none⟩ 1 1 [.int .u64 (xm.typ : Int), .int .u64 (xm.num : Int), .int .u64 (xm.flg : Int), .int .i64 xm.crc, .slice Am nm cm] (by rfl) rfl RY.out.2 (rowK_one [PK.mk xm Am nm cm]) (by have := HM.out; unfold maxLen; omega) (by have := HM.out; omega) BT.out.size ?_
            intro g' cap' wd ho hg hat hlt
            rw [show (rowK (ps.take m) ++ [.int .u64 (x.typ : Int), .int .u64 (x.num : Int), .int .u64 (x.flg : Int), .int .i64 x.crc, .slice Ax nx cx]) ++ [.int .u64 (xm.typ : Int), .int .u64 (xm.num : Int), .int .u64 (xm.flg : Int), .int .i64 xm.crc, .slice Am nm cm] = rowK (ps.take m ++ [PK.mk x Ax nx cx, PK.mk xm Am nm cm]) by rw [rowK_app, List.append_assoc]; rfl] at ho
            have OC2 := Lib.hid ho
            have BN : Hid (Below w3.heap.size w3 wd) := grownOwn BT.out BT.out.size hg (owns_base OC.out)
            clear BT OC ho hg hat hlt RY NY
            have BT := BN
            have OC := OC2
            clear BN OC2
            refine hK.out _ _ (SX.out _ BT.out) (fun hHeld => ?_)
            try simp only [Act.put]
            try simp only [List.setIfInBounds_toArray]
            try simp only [List.set_cons_succ]
            try simp only [List.set_cons_zero]
            clear hK K hHeld
            clear wc
            obtain ⟨wc, rfl⟩ : ∃ wc, wc = wd := ⟨_, rfl⟩
            obtain ⟨g, rfl⟩ : ∃ g, g = g' := ⟨_, rfl⟩
            obtain ⟨cap, rfl⟩ : ∃ cap, cap = cap' := ⟨_, rfl⟩
            have hHeld := SX.out _ BT.out
            refine takeR (i := 18) (v := ?v18_13) rfl (by kernel_rfl) (by kernel_rfl) (by kernel_rfl) (fun _ _ _ h => h) (by rfl) ?hy18_13 (by assumption) ?rest18_13
            case hy18_13 => (intro W hSw; go_simp; try with_reducible rfl)
            try simp only [Act.put]
            try simp only [List.setIfInBounds_toArray]
            try simp only [List.set_cons_succ]
            try simp only [List.set_cons_zero]
            clear hHeld
            refine wpAnyH_ready (rs := [19]) (by kernel_rfl) (by simp) ?_
            refine AllReadyH.cons rfl (fun K hK => ?_) AllReadyH.nil
            have HY4 := Lib.hid ((BT.out.block w2.heap.size (by have := HSZ3.out; omega)).trans HROW3.out)
            have f17 := row_free HY4.out 17
            have y17 := cell_row HY4.out 17 rfl
            rw [if_pos (by rfl)]
            go_simp
            refine hK.out _ _ ((SX.out _ BT.out).setCell (p := ⟨w2.heap.size, 17, none⟩) (Nat.le_refl _) _) (fun hHeld => ?_)
            try simp only [Act.put]
            try simp only [List.setIfInBounds_toArray]
            try simp only [List.set_cons_succ]
            try simp only [List.set_cons_zero]
            clear hK K hHeld f17 y17
            refine wpAnyH_done (by kernel_rfl) ?_ _
            go_wp2_with fail
            go_meet
            case rel => exact ⟨g, cap, wc, rfl, BT.out, OC.out⟩
          refine AllReadyH.cons rfl (fun K hK => ?_) AllReadyH.nil
          rw [if_pos (by rfl)]
          go_simp
          have RY : Hid (RowAt (wc.alloc (.cells #[.int .u64 (xm.typ : Int), .int .u64 (xm.num : Int), .int .u64 (xm.flg : Int), .int .i64 xm.crc, .slice Am nm cm] 48)) wc.heap.size [.int .u64 (xm.typ : Int), .int .u64 (xm.num : Int), .int .u64 (xm.flg : Int), .int .i64 xm.crc, .slice Am nm cm]) := RowAt.made wc #[.int .u64 (xm.typ : Int), .int .u64 (xm.num : Int), .int .u64 (xm.flg : Int), .int .i64 xm.crc, .slice Am nm cm] 48
          have NY : Hid (wc.heap.size ≠ g) := by show _ ≠ _; have := owns_lt OC.out; omega
          have OC2 := Lib.hid (World.ownsRow.alloc OC.out (.cells #[.int .u64 (xm.typ : Int), .int .u64 (xm.num : Int), .int .u64 (xm.flg : Int), .int .i64 xm.crc, .slice Am nm cm] 48))
          clear OC
          have OC := OC2
          clear OC2
          have RX2 := Lib.hid (RX.out.alloc (.cells #[.int .u64 (xm.typ : Int), .int .u64 (xm.num : Int), .int .u64 (xm.flg : Int), .int .i64 xm.crc, .slice Am nm cm] 48))
          clear RX
          have RX := RX2
          clear RX2
          have BN : Hid (Below w3.heap.size w3 (wc.alloc (.cells #[.int .u64 (xm.typ : Int), .int .u64 (xm.num : Int), .int .u64 (xm.flg : Int), .int .i64 xm.crc, .slice Am nm cm] 48))) := BT.out.alloc BT.out.size _
          clear BT
          have BT := BN
          clear BN
          refine hK.out _ _ (SX.out _ BT.out) (fun hHeld => ?_)
          try simp only [Act.put]
          try simp only [List.setIfInBounds_toArray]
          try simp only [List.set_cons_succ]
          try simp only [List.set_cons_zero]
          clear hK K hHeld
          generalize wc.alloc (.cells #[.int .u64 (xm.typ : Int), .int .u64 (xm.num : Int), .int .u64 (xm.flg : Int), .int .i64 xm.crc, .slice Am nm cm] 48) = wd at *
          generalize wc.heap.size = gy at *
          clear wc
          obtain ⟨wc, rfl⟩ : ∃ wc, wc = wd := ⟨_, rfl⟩
          refine wpAnyH_ready (rs := [9]) (by kernel_rfl) (by simp) ?_
          refine AllReadyH.cons rfl (fun K hK => ?_) AllReadyH.nil
          refine step_append_z (by rfl) (.tmp 25) (.tmp 27) 71 (by rfl) w3.heap.size 48 i0 _ 5 56 Tryz.underlying71 HI.out HZ0.out HZ1.out HZ2.out rfl (by decide) g cap m (rowK (ps.take m)) (by rfl) OC.out ⟨gx, 0, none⟩ 1 1 [.int .u64 (x.typ : Int), .int .u64 (x.num : Int), .int .u64 (x.flg : Int), .int .i64 x.crc, .slice Ax nx cx] (by rfl) rfl RX.out.2 (rowK_one [PK.mk x Ax nx cx]) (by have := HM.out; unfold maxLen; omega) (by have := HM.out; omega) BT.out.size ?_
          intro g' cap' wd ho hg hat hlt
          have OC2 := Lib.hid ho
          have BN : Hid (Below w3.heap.size w3 wd) := grownOwn BT.out BT.out.size hg (owns_base OC.out)
          have NY2 : Hid (gy ≠ g') := ne_grown NY.out RY.out.1 hat
          have RY2 := Lib.hid (RY.out.grown hg NY.out)
          clear RY NY
          have RY := RY2
          have NY := NY2
          clear RY2 NY2
          clear BT OC ho hg hat hlt RX NX
          have BT := BN
          have OC := OC2
          clear BN OC2
          refine hK.out _ _ (SX.out _ BT.out) (fun hHeld => ?_)
          try simp only [Act.put]
          try simp only [List.setIfInBounds_toArray]
          try simp only [List.set_cons_succ]
          try simp only [List.set_cons_zero]
          clear hK K hHeld
          clear wc
          obtain ⟨wc, rfl⟩ : ∃ wc, wc = wd := ⟨_, rfl⟩
          obtain ⟨g, rfl⟩ : ∃ g, g = g' := ⟨_, rfl⟩
          obtain ⟨cap, rfl⟩ : ∃ cap, cap = cap' := ⟨_, rfl⟩
          refine wpAnyH_ready (rs := [17]) (by kernel_rfl) (by simp) ?_
          refine AllReadyH.cons rfl (fun K hK => ?_) AllReadyH.nil
          refine step_append_z (by rfl) (.tmp 28) (.tmp 35) 71 (by rfl) w3.heap.size 48 i0 _ 5 56 Tryz.underlying71 HI.out HZ0.out HZ1.out HZ2.out rfl (by decide) g cap (m + 1) (rowK (ps.take m) ++ [.int .u64 (x.typ : Int), .int .u64 (x.num : Int), .int .u64 (x.flg : Int), .int .i64 x.crc, .slice Ax nx cx]) (by rfl) OC.out ⟨gy, 0, none⟩ 1 1 [.int .u64 (xm.typ : Int), .int .u64 (xm.num : Int), .int .u64 (xm.flg : Int), .int .i64 xm.crc, .slice Am nm cm] (by rfl) rfl RY.out.2 (rowK_one [PK.mk xm Am nm cm]) (by have := HM.out; unfold maxLen; omega) (by have := HM.out; omega) BT.out.size ?_
          intro g' cap' wd ho hg hat hlt
          rw [show (rowK (ps.take m) ++ [.int .u64 (x.typ : Int), .int .u64 (x.num : Int), .int .u64 (x.flg : Int), .int .i64 x.crc, .slice Ax nx cx]) ++ [.int .u64 (xm.typ : Int), .int .u64 (xm.num : Int), .int .u64 (xm.flg : Int), .int .i64 xm.crc, .slice Am nm cm] = rowK (ps.take m ++ [PK.mk x Ax nx cx, PK.mk xm Am nm cm]) by rw [rowK_app, List.append_assoc]; rfl] at ho
          have OC2 := Lib.hid ho
          have BN : Hid (Below w3.heap.size w3 wd) := grownOwn BT.out BT.out.size hg (owns_base OC.out)
          clear BT OC ho hg hat hlt RY NY
          have BT := BN
          have OC := OC2
          clear BN OC2
          refine hK.out _ _ (SX.out _ BT.out) (fun hHeld => ?_)
          try simp only [Act.put]
          try simp only [List.setIfInBounds_toArray]
          try simp only [List.set_cons_succ]
          try simp only [List.set_cons_zero]
          clear hK K hHeld
          clear wc
          obtain ⟨wc, rfl⟩ : ∃ wc, wc = wd := ⟨_, rfl⟩
          obtain ⟨g, rfl⟩ : ∃ g, g = g' := ⟨_, rfl⟩
          obtain ⟨cap, rfl⟩ : ∃ cap, cap = cap' := ⟨_, rfl⟩
          have hHeld := SX.out _ BT.out
          refine takeR (i := 18) (v := ?v18_14) rfl (by kernel_rfl) (by kernel_rfl) (by kernel_rfl) (fun _ _ _ h => h) (by rfl) ?hy18_14 (by assumption) ?rest18_14
          case hy18_14 => (intro W hSw; go_simp; try with_reducible rfl)
          try simp only [Act.put]
          try simp only [List.setIfInBounds_toArray]
          try simp only [List.set_cons_succ]
          try simp only [List.set_cons_zero]
          clear hHeld
          refine wpAnyH_ready (rs := [19]) (by kernel_rfl) (by simp) ?_
          refine AllReadyH.cons rfl (fun K hK => ?_) AllReadyH.nil
          have HY4 := Lib.hid ((BT.out.block w2.heap.size (by have := HSZ3.out; omega)).trans HROW3.out)
          have f17 := row_free HY4.out 17
          have y17 := cell_row HY4.out 17 rfl
          rw [if_pos (by rfl)]
          go_simp
          refine hK.out _ _ ((SX.out _ BT.out).setCell (p := ⟨w2.heap.size, 17, none⟩) (Nat.le_refl _) _) (fun hHeld => ?_)
          try simp only [Act.put]
          try simp only [List.setIfInBounds_toArray]
          try simp only [List.set_cons_succ]
          try simp only [List.set_cons_zero]
          clear hK K hHeld f17 y17
          refine wpAnyH_done (by kernel_rfl) ?_ _
          go_wp2_with fail
          go_meet
          case rel => exact ⟨g, cap, wc, rfl, BT.out, OC.out⟩
        refine AllReadyH.cons rfl (fun K hK => ?_) AllReadyH.nil
        rw [if_pos (by rfl)]
        go_simp
        have RY : Hid (RowAt (wc.alloc (.cells #[.int .u64 (xm.typ : Int), .int .u64 (xm.num : Int), .int .u64 (xm.flg : Int), .int .i64 xm.crc, .slice Am nm cm] 48)) wc.heap.size [.int .u64 (xm.typ : Int), .int .u64 (xm.num : Int), .int .u64 (xm.flg : Int), .int .i64 xm.crc, .slice Am nm cm]) := RowAt.made wc #[.int .u64 (xm.typ : Int), .int .u64 (xm.num : Int), .int .u64 (xm.flg : Int), .int .i64 xm.crc, .slice Am nm cm] 48
        have NY : Hid (wc.heap.size ≠ g) := by show _ ≠ _; have := owns_lt OC.out; omega
        have OC2 := Lib.hid (World.ownsRow.alloc OC.out (.cells #[.int .u64 (xm.typ : Int), .int .u64 (xm.num : Int), .int .u64 (xm.flg : Int), .int .i64 xm.crc, .slice Am nm cm] 48))
        clear OC
        have OC := OC2
        clear OC2
        have BN : Hid (Below w3.heap.size w3 (wc.alloc (.cells #[.int .u64 (xm.typ : Int), .int .u64 (xm.num : Int), .int .u64 (xm.flg : Int), .int .i64 xm.crc, .slice Am nm cm] 48))) := BT.out.alloc BT.out.size _
        clear BT
        have BT := BN
        clear BN
        refine hK.out _ _ (SX.out _ BT.out) (fun hHeld => ?_)
        try simp only [Act.put]
        try simp only [List.setIfInBounds_toArray]
        try simp only [List.set_cons_succ]
        try simp only [List.set_cons_zero]
        clear hK K hHeld
        generalize wc.alloc (.cells #[.int .u64 (xm.typ : Int), .int .u64 (xm.num : Int), .int .u64 (xm.flg : Int), .int .i64 xm.crc, .slice Am nm cm] 48) = wd at *
        generalize wc.heap.size = gy at *
        clear wc
        obtain ⟨wc, rfl⟩ : ∃ wc, wc = wd := ⟨_, rfl⟩
        refine wpAnyH_ready (rs := [8]) (by kernel_rfl) (by simp) ?_
        refine AllReadyH.cons rfl (fun K hK => ?_) AllReadyH.nil
        rw [if_pos (by rfl)]
        go_simp
        have RX : Hid (RowAt (wc.alloc (.cells #[.int .u64 (x.typ : Int), .int .u64 (x.num : Int), .int .u64 (x.flg : Int), .int .i64 x.crc, .slice Ax nx cx] 48)) wc.heap.size [.int .u64 (x.typ : Int), .int .u64 (x.num : Int), .int .u64 (x.flg : Int), .int .i64 x.crc, .slice Ax nx cx]) := RowAt.made wc #[.int .u64 (x.typ : Int), .int .u64 (x.num : Int), .int .u64 (x.flg : Int), .int .i64 x.crc, .slice Ax nx cx] 48
        have NX : Hid (wc.heap.size ≠ g) := by show _ ≠ _; have := owns_lt OC.out; omega
        have OC2 := Lib.hid (World.ownsRow.alloc OC.out (.cells #[.int .u64 (x.typ : Int), .int .u64 (x.num : Int), .int .u64 (x.flg : Int), .int .i64 x.crc, .slice Ax nx cx] 48))
        clear OC
        have OC := OC2
        clear OC2
        have RY2 := Lib.hid (RY.out.alloc (.cells #[.int .u64 (x.typ : Int), .int .u64 (x.num : Int), .int .u64 (x.flg : Int), .int .i64 x.crc, .slice Ax nx cx] 48))
        clear RY
        have RY := RY2
        clear RY2
        have BN : Hid (Below w3.heap.size w3 (wc.alloc (.cells #[.int .u64 (x.typ : Int), .int .u64 (x.num : Int), .int .u64 (x.flg : Int), .int .i64 x.crc, .slice Ax nx cx] 48))) := BT.out.alloc BT.out.size _
        clear BT
        have BT := BN
        clear BN
        refine hK.out _ _ (SX.out _ BT.out) (fun hHeld => ?_)
        try simp only [Act.put]
        try simp only [List.setIfInBounds_toArray]
        try simp only [List.set_cons_succ]
        try simp only [List.set_cons_zero]
        clear hK K hHeld
        generalize wc.alloc (.cells #[.int .u64 (x.typ : Int), .int .u64 (x.num : Int), .int .u64 (x.flg : Int), .int .i64 x.crc, .slice Ax nx cx] 48) = wd at *
        generalize wc.heap.size = gx at *
        clear wc
        obtain ⟨wc, rfl⟩ : ∃ wc, wc = wd := ⟨_, rfl⟩
        refine wpAnyH_ready (rs := [9]) (by kernel_rfl) (by simp) ?_
        refine AllReadyH.cons rfl (fun K hK => ?_) AllReadyH.nil
        refine step_append_z (by rfl) (.tmp 25) (.tmp 27) 71 (by rfl) w3.heap.size 48 i0 _ 5 56 Tryz.underlying71 HI.out HZ0.out HZ1.out HZ2.out rfl (by decide) g cap m (rowK (ps.take m)) (by rfl) OC.out ⟨gx, 0, none⟩ 1 1 [.int .u64 (x.typ : Int), .int .u64 (x.num : Int), .int .u64 (x.flg : Int), .int .i64 x.crc, .slice Ax nx cx] (by rfl) rfl RX.out.2 (rowK_one [PK.mk x Ax nx cx]) (by have := HM.out; unfold maxLen; omega) (by have := HM.out; omega) BT.out.size ?_
        intro g' cap' wd ho hg hat hlt
        have OC2 := Lib.hid ho
        have BN : Hid (Below w3.heap.size w3 wd) := grownOwn BT.out BT.out.size hg (owns_base OC.out)
        have NY2 : Hid (gy ≠ g') := ne_grown NY.out RY.out.1 hat
        have RY2 := Lib.hid (RY.out.grown hg NY.out)
        clear RY NY
        have RY := RY2
        have NY := NY2
        clear RY2 NY2
        clear BT OC ho hg hat hlt RX NX
        have BT := BN
        have OC := OC2
        clear BN OC2
        refine hK.out _ _ (SX.out _ BT.out) (fun hHeld => ?_)
        try simp only [Act.put]
        try simp only [List.setIfInBounds_toArray]
        try simp only [List.set_cons_succ]
        try simp only [List.set_cons_zero]
        clear hK K hHeld
        clear wc
        obtain ⟨wc, rfl⟩ : ∃ wc, wc = wd := ⟨_, rfl⟩
        obtain ⟨g, rfl⟩ : ∃ g, g = g' := ⟨_, rfl⟩
        obtain ⟨cap, rfl⟩ : ∃ cap, cap = cap' := ⟨_, rfl⟩
        refine wpAnyH_ready (rs := [17]) (by kernel_rfl) (by simp) ?_
        refine AllReadyH.cons rfl (fun K hK => ?_) AllReadyH.nil
        refine step_append_z (by rfl) (.tmp 28) (.tmp 35) 71 (by rfl) w3.heap.size 48 i0 _ 5 56 Tryz.underlying71 HI.out HZ0.out HZ1.out HZ2.out rfl (by decide) g cap (m + 1) (rowK (ps.take m) ++ [.int .u64 (x.typ : Int), .int .u64 (x.num : Int), .int .u64 (x.flg : Int), .int .i64 x.crc, .slice Ax nx cx]) (by rfl) OC.out ⟨gy, 0, none⟩ 1 1 [.int .u64 (xm.typ : Int), .int .u64 (xm.num : Int), .int .u64 (xm.flg : Int), .int .i64 xm.crc, .slice Am nm cm] (by rfl) rfl RY.out.2 (rowK_one [PK.mk xm Am nm cm]) (by have := HM.out; unfold maxLen; omega) (by have := HM.out; omega) BT.out.size ?_
        intro g' cap' wd ho hg hat hlt
        rw [show (rowK (ps.take m) ++ [.int .u64 (x.typ : Int), .int .u64 (x.num : Int), .int .u64 (x.flg : Int), .int .i64 x.crc, .slice Ax nx cx]) ++ [.int .u64 (xm.typ : Int), .int .u64 (xm.num : Int), .int .u64 (xm.flg : Int), .int .i64 xm.crc, .slice Am nm cm] = rowK (ps.take m ++ [PK.mk x Ax nx cx, PK.mk xm Am nm cm]) by rw [rowK_app, List.append_assoc]; rfl] at ho
        have OC2 := Lib.hid ho
        have BN : Hid (Below w3.heap.size w3 wd) := grownOwn BT.out BT.out.size hg (owns_base OC.out)
        clear BT OC ho hg hat hlt RY NY
        have BT := BN
        have OC := OC2
        clear BN OC2
        refine hK.out _ _ (SX.out _ BT.out) (fun hHeld => ?_)
        try simp only [Act.put]
        try simp only [List.setIfInBounds_toArray]
        try simp only [List.set_cons_succ]
        try simp only [List.set_cons_zero]
        clear hK K hHeld
        clear wc
        obtain ⟨wc, rfl⟩ : ∃ wc, wc = wd := ⟨_, rfl⟩
        obtain ⟨g, rfl⟩ : ∃ g, g = g' := ⟨_, rfl⟩
        obtain ⟨cap, rfl⟩ : ∃ cap, cap = cap' := ⟨_, rfl⟩
        have hHeld := SX.out _ BT.out
        refine takeR (i := 18) (v := ?v18_15) rfl (by kernel_rfl) (by kernel_rfl) (by kernel_rfl) (fun _ _ _ h => h) (by rfl) ?hy18_15 (by assumption) ?rest18_15
        case hy18_15 => (intro W hSw; go_simp; try with_reducible rfl)
        try simp only [Act.put]
        try simp only [List.setIfInBounds_toArray]
        try simp only [List.set_cons_succ]
        try simp only [List.set_cons_zero]
        clear hHeld
        refine wpAnyH_ready (rs := [19]) (by kernel_rfl) (by simp) ?_
        refine AllReadyH.cons rfl (fun K hK => ?_) AllReadyH.nil
        have HY4 := Lib.hid ((BT.out.block w2.heap.size (by have := HSZ3.out; omega)).trans HROW3.out)
        have f17 := row_free HY4.out 17
        have y17 := cell_row HY4.out 17 rfl
        rw [if_pos (by rfl)]
        go_simp
        refine hK.out _ _ ((SX.out _ BT.out).setCell (p := ⟨w2.heap.size, 17, none⟩) (Nat.le_refl _) _) (fun hHeld => ?_)
        try simp only [Act.put]
        try simp only [List.setIfInBounds_toArray]
        try simp only [List.set_cons_succ]
        try simp only [List.set_cons_zero]
        clear hK K hHeld f17 y17
        refine wpAnyH_done (by kernel_rfl) ?_ _
        go_wp2_with fail
        go_meet
        case rel => exact ⟨g, cap, wc, rfl, BT.out, OC.out⟩
      refine AllReadyH.cons rfl (fun K hK => ?_) ?_
      · skip
        rw [if_pos (by rfl)]
        go_simp
        have RX : Hid (RowAt (wc.alloc (.cells #[.int .u64 (x.typ : Int), .int .u64 (x.num : Int), .int .u64 (x.flg : Int), .int .i64 x.crc, .slice Ax nx cx] 48)) wc.heap.size [.int .u64 (x.typ : Int), .int .u64 (x.num : Int), .int .u64 (x.flg : Int), .int .i64 x.crc, .slice Ax nx cx]) := RowAt.made wc #[.int .u64 (x.typ : Int), .int .u64 (x.num : Int), .int .u64 (x.flg : Int), .int .i64 x.crc, .slice Ax nx cx] 48
        have NX : Hid (wc.heap.size ≠ g) := by show _ ≠ _; have := owns_lt OC.out; omega
        have OC2 := Lib.hid (World.ownsRow.alloc OC.out (.cells #[.int .u64 (x.typ : Int), .int .u64 (x.num : Int), .int .u64 (x.flg : Int), .int .i64 x.crc, .slice Ax nx cx] 48))
        clear OC
        have OC := OC2
        clear OC2
        have BN : Hid (Below w3.heap.size w3 (wc.alloc (.cells #[.int .u64 (x.typ : Int), .int .u64 (x.num : Int), .int .u64 (x.flg : Int), .int .i64 x.crc, .slice Ax nx cx] 48))) := BT.out.alloc BT.out.size _
        clear BT
        have BT := BN
        clear BN
        refine hK.out _ _ (SX.out _ BT.out) (fun hHeld => ?_)
        try simp only [Act.put]
        try simp only [List.setIfInBounds_toArray]
        try simp only [List.set_cons_succ]
        try simp only [List.set_cons_zero]
        clear hK K hHeld
        generalize wc.alloc (.cells #[.int .u64 (x.typ : Int), .int .u64 (x.num : Int), .int .u64 (x.flg : Int), .int .i64 x.crc, .slice Ax nx cx] 48) = wd at *
        generalize wc.heap.size = gx at *
        clear wc
        obtain ⟨wc, rfl⟩ : ∃ wc, wc = wd := ⟨_, rfl⟩
        refine wpAnyH_ready (rs := [6, 16]) (by kernel_rfl) (by simp) ?_
        refine AllReadyH.cons rfl (fun K hK => ?_) ?_
        · skip
          refine step_append_z (by rfl) (.tmp 19) (.tmp 24) 71 (by rfl) w3.heap.size 48 i0 _ 5 56 Tryz.underlying71 HI.out HZ0.out HZ1.out HZ2.out rfl (by decide) g 0 0 [] (by rfl) OC.out ⟨b, o, none⟩ m c (rowK (ps.take m)) (by rfl) HLO.out (HOL.out _ BT.out) (rowK_one _) (by have := HM.out; unfold maxLen; omega) (by have := HM.out; omega) BT.out.size ?_
          intro g' cap' wd ho hg hat hlt
          rw [Nat.zero_add, List.nil_append] at ho; rw [Nat.zero_add]
          have OC2 := Lib.hid ho
          have BN : Hid (Below w3.heap.size w3 wd) := grownOwn BT.out BT.out.size hg (owns_base OC.out)
          have NX2 : Hid (gx ≠ g') := ne_grown NX.out RX.out.1 hat
          have RX2 := Lib.hid (RX.out.grown hg NX.out)
          clear RX NX
          have RX := RX2
          have NX := NX2
          clear RX2 NX2
          clear BT OC ho hg hat hlt
          have BT := BN
          have OC := OC2
          clear BN OC2
          refine hK.out _ _ (SX.out _ BT.out) (fun hHeld => ?_)
          try simp only [Act.put]
          try simp only [List.setIfInBounds_toArray]
          try simp only [List.set_cons_succ]
          try simp only [List.set_cons_zero]
          clear hK K hHeld
          clear wc
          obtain ⟨wc, rfl⟩ : ∃ wc, wc = wd := ⟨_, rfl⟩
          obtain ⟨g, rfl⟩ : ∃ g, g = g' := ⟨_, rfl⟩
          obtain ⟨cap, rfl⟩ : ∃ cap, cap = cap' := ⟨_, rfl⟩
          refine wpAnyH_ready (rs := [9, 16]) (by kernel_rfl) (by simp) ?_
          refine AllReadyH.cons rfl (fun K hK => ?_) ?_
          · skip
            refine step_append_z (by rfl) (.tmp 25) (.tmp 27) 71 (by rfl) w3.heap.size 48 i0 _ 5 56 Tryz.underlying71 HI.out HZ0.out HZ1.out HZ2.out rfl (by decide) g cap m (rowK (ps.take m)) (by rfl) OC.out ⟨gx, 0, none⟩ 1 1 [.int .u64 (x.typ : Int), .int .u64 (x.num : Int), .int .u64 (x.flg : Int), .int .i64 x.crc, .slice Ax nx cx] (by rfl) rfl RX.out.2 (rowK_one [PK.mk x Ax nx cx]) (by have := HM.out; unfold maxLen; omega) (by have := HM.out; omega) BT.out.size ?_
            intro g' cap' wd ho hg hat hlt
            have OC2 := Lib.hid ho
            have BN : Hid (Below w3.heap.size w3 wd) := grownOwn BT.out BT.out.size hg (owns_base OC.out)
            clear BT OC ho hg hat hlt RX NX
            have BT := BN
            have OC := OC2
            clear BN OC2
            refine hK.out _ _ (SX.out _ BT.out) (fun hHeld => ?_)
            try simp only [Act.put]
            try simp only [List.setIfInBounds_toArray]
            try simp only [List.set_cons_succ]
            try simp only [List.set_cons_zero]
            clear hK K hHeld
            clear wc
            obtain ⟨wc, rfl⟩ : ∃ wc, wc = wd := ⟨_, rfl⟩
            obtain ⟨g, rfl⟩ : ∃ g, g = g' := ⟨_, rfl⟩
            obtain ⟨cap, rfl⟩ : ∃ cap, cap = cap' := ⟨_, rfl⟩
            refine wpAnyH_ready (rs := [16]) (by kernel_rfl) (by simp) ?_
            refine AllReadyH.cons rfl (fun K hK => ?_) AllReadyH.nil
            rw [if_pos (by rfl)]
            go_simp
            have RY : Hid (RowAt (wc.alloc (.cells #[.int .u64 (xm.typ : Int), .int .u64 (xm.num : Int), .int .u64 (xm.flg : Int), .int .i64 xm.crc, .slice Am nm cm] 48)) wc.heap.size [.int .u64 (xm.typ : Int), .int .u64 (xm.num : Int), .int .u64 (xm.flg : Int), .int .i64 xm.crc, .slice Am nm cm]) := RowAt.made wc #[.int .u64 (xm.typ : Int), .int .u64 (xm.num : Int), .int .u64 (xm.flg : Int), .int .i64 xm.crc, .slice Am nm cm] 48
            have NY : Hid (wc.heap.size ≠ g) := by show _ ≠ _; have := owns_lt OC.out; omega
            have OC2 := Lib.hid (World.ownsRow.alloc OC.out (.cells #[.int .u64 (xm.typ : Int), .int .u64 (xm.num : Int), .int .u64 (xm.flg : Int), .int .i64 xm.crc, .slice Am nm cm] 48))
            clear OC
            have OC := OC2
            clear OC2
            have BN : Hid (Below w3.heap.size w3 (wc.alloc (.cells #[.int .u64 (xm.typ : Int), .int .u64 (xm.num : Int), .int .u64 (xm.flg : Int), .int .i64 xm.crc, .slice Am nm cm] 48))) := BT.out.alloc BT.out.size _
            clear BT
            have BT := BN
            clear BN
            refine hK.out _ _ (SX.out _ BT.out) (fun hHeld => ?_)
            try simp only [Act.put]
            try simp only [List.setIfInBounds_toArray]
            try simp only [List.set_cons_succ]
            try simp only [List.set_cons_zero]
            clear hK K hHeld
            generalize wc.alloc (.cells #[.int .u64 (xm.typ : Int), .int .u64 (xm.num : Int), .int .u64 (xm.flg : Int), .int .i64 xm.crc, .slice Am nm cm] 48) = wd at *
            generalize wc.heap.size = gy at *
            clear wc
            obtain ⟨wc, rfl⟩ : ∃ wc, wc = wd := ⟨_, rfl⟩
            refine wpAnyH_ready (rs := [17]) (by kernel_rfl) (by simp) ?_
            refine AllReadyH.cons rfl (fun K hK => ?_) AllReadyH.nil
            refine step_append_z (by rfl) (.tmp 28) (.tmp 35) 71 (by rfl) w3.heap.size 48 i0 _ 5 56 Tryz.underlying71 HI.out HZ0.out HZ1.out HZ2.out rfl (by decide) g cap (m + 1) (rowK (ps.take m) ++ [.int .u64 (x.typ : Int), .int .u64 (x.num : Int), .int .u64 (x.flg : Int), .int .i64 x.crc, .slice Ax nx cx]) (by rfl) OC.out ⟨gy, 0, none⟩ 1 1 [.int .u64 (xm.typ : Int), .int .u64 (xm.num : Int), .int .u64 (xm.flg : Int), .int .i64 xm.crc, .slice Am nm cm] (by rfl) rfl RY.out.2 (rowK_one [PK.mk xm Am nm cm]) (by have := HM.out; unfold maxLen; omega) (by have := HM.out; omega) BT.out.size ?_
            intro g' cap' wd ho hg hat hlt
            rw [show (rowK (ps.take m) ++ [.int .u64 (x.typ : Int), .int .u64 (x.num : Int), .int .u64 (x.flg : Int), .int .i64 x.crc, .slice Ax nx cx]) ++ [.int .u64 (xm.typ : Int), .int .u64 (xm.num : Int), .int .u64 (xm.flg : Int), .int .i64 xm.crc, .slice Am nm cm] = rowK (ps.take m ++ [PK.mk x Ax nx cx, PK.mk xm Am nm cm]) by rw [rowK_app, List.append_assoc]; rfl] at ho
            have OC2 := Lib.hid ho
            have BN : Hid (Below w3.heap.size w3 wd) := grownOwn BT.out BT.out.size hg (owns_base OC.out)
            clear BT OC ho hg hat hlt RY NY
            have BT := BN
            have OC := OC2
            clear BN OC2
            refine hK.out _ _ (SX.out _ BT.out) (fun hHeld => ?_)
            try simp only [Act.put]
            try simp only [List.setIfInBounds_toArray]
            try simp only [List.set_cons_succ]
            try simp only [List.set_cons_zero]
            clear hK K hHeld
            clear wc
            obtain ⟨wc, rfl⟩ : ∃ wc, wc = wd := ⟨_, rfl⟩
            obtain ⟨g, rfl⟩ : ∃ g, g = g' := ⟨_, rfl⟩
            obtain ⟨cap, rfl⟩ : ∃ cap, cap = cap' := ⟨_, rfl⟩
            have hHeld := SX.out _ BT.out
            refine takeR (i := 18) (v := ?v18_16) rfl (by kernel_rfl) (by kernel_rfl) (by kernel_rfl) (fun _ _ _ h => h) (by rfl) ?hy18_16 (by assumption) ?rest18_16
            case hy18_16 => (intro W hSw; go_simp; try with_reducible rfl)
            try simp only [Act.put]
            try simp only [List.setIfInBounds_toArray]
            try simp only [List.set_cons_succ]
            try simp only [List.set_cons_zero]
            clear hHeld
            refine wpAnyH_ready (rs := [19]) (by kernel_rfl) (by simp) ?_
            refine AllReadyH.cons rfl (fun K hK => ?_) AllReadyH.nil
            have HY4 := Lib.hid ((BT.out.block w2.heap.size (by have := HSZ3.out; omega)).trans HROW3.out)
            have f17 := row_free HY4.out 17
            have y17 := cell_row HY4.out 17 rfl
            rw [if_pos (by rfl)]
            go_simp
            refine hK.out _ _ ((SX.out _ BT.out).setCell (p := ⟨w2.heap.size, 17, none⟩) (Nat.le_refl _) _) (fun hHeld => ?_)
            try simp only [Act.put]
            try simp only [List.setIfInBounds_toArray]
            try simp only [List.set_cons_succ]
            try simp only [List.set_cons_zero]
            clear hK K hHeld f17 y17
            refine wpAnyH_done (by kernel_rfl) ?_ _
            go_wp2_with fail
            go_meet
            case rel => exact ⟨g, cap, wc, rfl, BT.out, OC.out⟩
          refine AllReadyH.cons rfl (fun K hK => ?_) AllReadyH.nil
          rw [if_pos (by rfl)]
          go_simp
          have RY : Hid (RowAt (wc.alloc (.cells #[.int .u64 (xm.typ : Int), .int .u64 (xm.num : Int), .int .u64 (xm.flg : Int), .int .i64 xm.crc, .slice Am nm cm] 48)) wc.heap.size [.int .u64 (xm.typ : Int), .int .u64 (xm.num : Int), .int .u64 (xm.flg : Int), .int .i64 xm.crc, .slice Am nm cm]) := RowAt.made wc #[.int .u64 (xm.typ : Int), .int .u64 (xm.num : Int), .int .u64 (xm.flg : Int), .int .i64 xm.crc, .slice Am nm cm] 48
          have NY : Hid (wc.heap.size ≠ g) := by show _ ≠ _; have := owns_lt OC.out; omega
          have OC2 := Lib.hid (World.ownsRow.alloc OC.out (.cells #[.int .u64 (xm.typ : Int), .int .u64 (xm.num : Int), .int .u64 (xm.flg : Int), .int .i64 xm.crc, .slice Am nm cm] 48))
          clear OC
          have OC := OC2
          clear OC2
          have RX2 := Lib.hid (RX.out.alloc (.cells #[.int .u64 (xm.typ : Int), .int .u64 (xm.num : Int), .int .u64 (xm.flg : Int), .int .i64 xm.crc, .slice Am nm cm] 48))
          clear RX
          have RX := RX2
          clear RX2
          have BN : Hid (Below w3.heap.size w3 (wc.alloc (.cells #[.int .u64 (xm.typ : Int), .int .u64 (xm.num : Int), .int .u64 (xm.flg : Int), .int .i64 xm.crc, .slice Am nm cm] 48))) := BT.out.alloc BT.out.size _
          clear BT
          have BT := BN
          clear BN
          refine hK.out _ _ (SX.out _ BT.out) (fun hHeld => ?_)
          try simp only [Act.put]
          try simp only [List.setIfInBounds_toArray]
          try simp only [List.set_cons_succ]
          try simp only [List.set_cons_zero]
          clear hK K hHeld
          generalize wc.alloc (.cells #[.int .u64 (xm.typ : Int), .int .u64 (xm.num : Int), .int .u64 (xm.flg : Int), .int .i64 xm.crc, .slice Am nm cm] 48) = wd at *
          generalize wc.heap.size = gy at *
          clear wc
          obtain ⟨wc, rfl⟩ : ∃ wc, wc = wd := ⟨_, rfl⟩
          refine wpAnyH_ready (rs := [9]) (by kernel_rfl) (by simp) ?_
          refine AllReadyH.cons rfl (fun K hK => ?_) AllReadyH.nil
          refine step_append_z (by rfl) (.tmp 25) (.tmp 27) 71 (by rfl) w3.heap.size 48 i0 _ 5 56 Tryz.underlying71 HI.out HZ0.out HZ1.out HZ2.out rfl (by decide) g cap m (rowK (ps.take m)) (by rfl) OC.out ⟨gx, 0, none⟩ 1 1 [.int .u64 (x.typ : Int), .int .u64 (x.num : Int), .int .u64 (x.flg : Int), .int .i64 x.crc, .slice Ax nx cx] (by rfl) rfl RX.out.2 (rowK_one [PK.mk x Ax nx cx]) (by have := HM.out; unfold maxLen; omega) (by have := HM.out; omega) BT.out.size ?_
          intro g' cap' wd ho hg hat hlt
          have OC2 := Lib.hid ho
          have BN : Hid (Below w3.heap.size w3 wd) := grownOwn BT.out BT.out.size hg (owns_base OC.out)
          have NY2 : Hid (gy ≠ g') := ne_grown NY.out RY.out.1 hat
          have RY2 := Lib.hid (RY.out.grown hg NY.out)
          clear RY NY
          have RY := RY2
          have NY := NY2
          clear RY2 NY2
          clear BT OC ho hg hat hlt RX NX
          have BT := BN
          have OC := OC2
          clear BN OC2
          refine hK.out _ _ (SX.out _ BT.out) (fun hHeld => ?_)
          try simp only [Act.put]
          try simp only [List.setIfInBounds_toArray]
          try simp only [List.set_cons_succ]
          try simp only [List.set_cons_zero]
          clear hK K hHeld
          clear wc
          obtain ⟨wc, rfl⟩ : ∃ wc, wc = wd := ⟨_, rfl⟩
          obtain ⟨g, rfl⟩ : ∃ g, g = g' := ⟨_, rfl⟩
          obtain ⟨cap, rfl⟩ : ∃ cap, cap = cap' := ⟨_, rfl⟩
          refine wpAnyH_ready (rs := [17]) (by kernel_rfl) (by simp) ?_
          refine AllReadyH.cons rfl (fun K hK => ?_) AllReadyH.nil
          refine step_append_z (by rfl) (.tmp 28) (.tmp 35) 71 (by rfl) w3.heap.size 48 i0 _ 5 56 Tryz.underlying71 HI.out HZ0.out HZ1.out HZ2.out rfl (by decide) g cap (m + 1) (rowK (ps.take m) ++ [.int .u64 (x.typ : Int), .int .u64 (x.num : Int), .int .u64 (x.flg : Int), .int .i64 x.crc, .slice Ax nx cx]) (by rfl) OC.out ⟨gy, 0, none⟩ 1 1 [.int .u64 (xm.typ : Int), .int .u64 (xm.num : Int), .int .u64 (xm.flg : Int), .int .i64 xm.crc, .slice Am nm cm] (by rfl) rfl RY.out.2 (rowK_one [PK.mk xm Am nm cm]) (by have := HM.out; unfold maxLen; omega) (by have := HM.out; omega) BT.out.size ?_
          intro g' cap' wd ho hg hat hlt
          rw [show (rowK (ps.take m) ++ [.int .u64 (x.typ : Int), .int .u64 (x.num : Int), .int .u64 (x.flg : Int), .int .i64 x.crc, .slice Ax nx cx]) ++ [.int .u64 (xm.typ : Int), .int .u64 (xm.num : Int), .int .u64 (xm.flg : Int), .int .i64 xm.crc, .slice Am nm cm] = rowK (ps.take m ++ [PK.mk x Ax nx cx, PK.mk xm Am nm cm]) by rw [rowK_app, List.append_assoc]; rfl] at ho
          have OC2 := Lib.hid ho
          have BN : Hid (Below w3.heap.size w3 wd) := grownOwn BT.out BT.out.size hg (owns_base OC.out)
          clear BT OC ho hg hat hlt RY NY
          have BT := BN
          have OC := OC2
          clear BN OC2
          refine hK.out _ _ (SX.out _ BT.out) (fun hHeld => ?_)
          try simp only [Act.put]
          try simp only [List.setIfInBounds_toArray]
          try simp only [List.set_cons_succ]
          try simp only [List.set_cons_zero]
          clear hK K hHeld
          clear wc
          obtain ⟨wc, rfl⟩ : ∃ wc, wc = wd := ⟨_, rfl⟩
          obtain ⟨g, rfl⟩ : ∃ g, g = g' := ⟨_, rfl⟩
          obtain ⟨cap, rfl⟩ : ∃ cap, cap = cap' := ⟨_, rfl⟩
          have hHeld := SX.out _ BT.out
          refine takeR (i := 18) (v := ?v18_17) rfl (by kernel_rfl) (by kernel_rfl) (by kernel_rfl) (fun _ _ _ h => h) (by rfl) ?hy18_17 (by assumption) ?rest18_17
          case hy18_17 => (intro W hSw; go_simp; try with_reducible rfl)
          try simp only [Act.put]
          try simp only [List.setIfInBounds_toArray]
          try simp only [List.set_cons_succ]
          try simp only [List.set_cons_zero]
          clear hHeld
          refine wpAnyH_ready (rs := [19]) (by kernel_rfl) (by simp) ?_
          refine AllReadyH.cons rfl (fun K hK => ?_) AllReadyH.nil
          have HY4 := Lib.hid ((BT.out.block w2.heap.size (by have := HSZ3.out; omega)).trans HROW3.out)
          have f17 := row_free HY4.out 17
          have y17 := cell_row HY4.out 17 rfl
          rw [if_pos (by rfl)]
          go_simp
          refine hK.out _ _ ((SX.out _ BT.out).setCell (p := ⟨w2.heap.size, 17, none⟩) (Nat.le_refl _) _) (fun hHeld => ?_)
          try simp only [Act.put]
          try simp only [List.setIfInBounds_toArray]
          try simp only [List.set_cons_succ]
          try simp only [List.set_cons_zero]
          clear hK K hHeld f17 y17
          refine wpAnyH_done (by kernel_rfl) ?_ _
          go_wp2_with fail
          go_meet
          case rel => exact ⟨g, cap, wc, rfl, BT.out, OC.out⟩
        refine AllReadyH.cons rfl (fun K hK => ?_) AllReadyH.nil
        rw [if_pos (by rfl)]
        go_simp
        have RY : Hid (RowAt (wc.alloc (.cells #[.int .u64 (xm.typ : Int), .int .u64 (xm.num : Int), .int .u64 (xm.flg : Int), .int .i64 xm.crc, .slice Am nm cm] 48)) wc.heap.size [.int .u64 (xm.typ : Int), .int .u64 (xm.num : Int), .int .u64 (xm.flg : Int), .int .i64 xm.crc, .slice Am nm cm]) := RowAt.made wc #[.int .u64 (xm.typ : Int), .int .u64 (xm.num : Int), .int .u64 (xm.flg : Int), .int .i64 xm.crc, .slice Am nm cm] 48
        have NY : Hid (wc.heap.size ≠ g) := by show _ ≠ _; have := owns_lt OC.out; omega
        have OC2 := Lib.hid (World.ownsRow.alloc OC.out (.cells #[.int .u64 (xm.typ : Int), .int .u64 (xm.num : Int), .int .u64 (xm.flg : Int), .int .i64 xm.crc, .slice Am nm cm] 48))
        clear OC
        have OC := OC2
        clear OC2
        have RX2 := Lib.hid (RX.out.alloc (.cells #[.int .u64 (xm.typ : Int), .int .u64 (xm.num : Int), .int .u64 (xm.flg : Int), .int .i64 xm.crc, .slice Am nm cm] 48))
        clear RX
        have RX := RX2
        clear RX2
        have BN : Hid (Below w3.heap.size w3 (wc.alloc (.cells #[.int .u64 (xm.typ : Int), .int .u64 (xm.num : Int), .int .u64 (xm.flg : Int), .int .i64 xm.crc, .slice Am nm cm] 48))) := BT.out.alloc BT.out.size _
        clear BT
        have BT := BN
        clear BN
        refine hK.out _ _ (SX.out _ BT.out) (fun hHeld => ?_)
        try simp only [Act.put]
        try simp only [List.setIfInBounds_toArray]
        try simp only [List.set_cons_succ]
        try simp only [List.set_cons_zero]
        clear hK K hHeld
        generalize wc.alloc (.cells #[.int .u64 (xm.typ : Int), .int .u64 (xm.num : Int), .int .u64 (xm.flg : Int), .int .i64 xm.crc, .slice Am nm cm] 48) = wd at *
        generalize wc.heap.size = gy at *
        clear wc
        obtain ⟨wc, rfl⟩ : ∃ wc, wc = wd := ⟨_, rfl⟩
        refine wpAnyH_ready (rs := [6]) (by kernel_rfl) (by simp) ?_
        refine AllReadyH.cons rfl (fun K hK => ?_) AllReadyH.nil
        refine step_append_z (by rfl) (.tmp 19) (.tmp 24) 71 (by rfl) w3.heap.size 48 i0 _ 5 56 Tryz.underlying71 HI.out HZ0.out HZ1.out HZ2.out rfl (by decide) g 0 0 [] (by rfl) OC.out ⟨b, o, none⟩ m c (rowK (ps.take m)) (by rfl) HLO.out (HOL.out _ BT.out) (rowK_one _) (by have := HM.out; unfold maxLen; omega) (by have := HM.out; omega) BT.out.size ?_
        intro g' cap' wd ho hg hat hlt
        rw [Nat.zero_add, List.nil_append] at ho; rw [Nat.zero_add]
        have OC2 := Lib.hid ho
        have BN : Hid (Below w3.heap.size w3 wd) := grownOwn BT.out BT.out.size hg (owns_base OC.out)
        have NX2 : Hid (gx ≠ g') := ne_grown NX.out RX.out.1 hat
        have RX2 := Lib.hid (RX.out.grown hg NX.out)
        clear RX NX
        have RX := RX2
        have NX := NX2
        clear RX2 NX2
        have NY2 : Hid (gy ≠ g') := ne_grown NY.out RY.out.1 hat
        have RY2 := Lib.hid (RY.out.grown hg NY.out)
        clear RY NY
        have RY := RY2
        have NY := NY2
        clear RY2 NY2
        clear BT OC ho hg hat hlt
        have BT := BN
        have OC := OC2
        clear BN OC2
        refine hK.out _ _ (SX.out _ BT.out) (fun hHeld => ?_)
        try simp only [Act.put]
        try simp only [List.setIfInBounds_toArray]
        try simp only [List.set_cons_succ]
        try simp only [List.set_cons_zero]
        clear hK K hHeld
        clear wc
        obtain ⟨wc, rfl⟩ : ∃ wc, wc = wd := ⟨_, rfl⟩
        obtain ⟨g, rfl⟩ : ∃ g, g = g' := ⟨_, rfl⟩
        obtain ⟨cap, rfl⟩ : ∃ cap, cap = cap' := ⟨_, rfl⟩
        refine wpAnyH_ready (rs := [9]) (by kernel_rfl) (by simp) ?_
        refine AllReadyH.cons rfl (fun K hK => ?_) AllReadyH.nil
        refine step_append_z (by rfl) (.tmp 25) (.tmp 27) 71 (by rfl) w3.heap.size 48 i0 _ 5 56 Tryz.underlying71 HI.out HZ0.out HZ1.out HZ2.out rfl (by decide) g cap m (rowK (ps.take m)) (by rfl) OC.out ⟨gx, 0, none⟩ 1 1 [.int .u64 (x.typ : Int), .int .u64 (x.num : Int), .int .u64 (x.flg : Int), .int .i64 x.crc, .slice Ax nx cx] (by rfl) rfl RX.out.2 (rowK_one [PK.mk x Ax nx cx]) (by have := HM.out; unfold maxLen; omega) (by have := HM.out; omega) BT.out.size ?_
        intro g' cap' wd ho hg hat hlt
        have OC2 := Lib.hid ho
        have BN : Hid (Below w3.heap.size w3 wd) := grownOwn BT.out BT.out.size hg (owns_base OC.out)
        have NY2 : Hid (gy ≠ g') := ne_grown NY.out RY.out.1 hat
        have RY2 := Lib.hid (RY.out.grown hg NY.out)
        clear RY NY
        have RY := RY2
        have NY := NY2
        clear RY2 NY2
        clear BT OC ho hg hat hlt RX NX
        have BT := BN
        have OC := OC2
        clear BN OC2
        refine hK.out _ _ (SX.out _ BT.out) (fun hHeld => ?_)
        try simp only [Act.put]
        try simp only [List.setIfInBounds_toArray]
        try simp only [List.set_cons_succ]
        try simp only [List.set_cons_zero]
        clear hK K hHeld
        clear wc
        obtain ⟨wc, rfl⟩ : ∃ wc, wc = wd := ⟨_, rfl⟩
        obtain ⟨g, rfl⟩ : ∃ g, g = g' := ⟨_, rfl⟩
        obtain ⟨cap, rfl⟩ : ∃ cap, cap = cap' := ⟨_, rfl⟩
        refine wpAnyH_ready (rs := [17]) (by kernel_rfl) (by simp) ?_
        refine AllReadyH.cons rfl (fun K hK => ?_) AllReadyH.nil
        refine step_append_z (by rfl) (.tmp 28) (.tmp 35) 71 (by rfl) w3.heap.size 48 i0 _ 5 56 Tryz.underlying71 HI.out HZ0.out HZ1.out HZ2.out rfl (by decide) g cap (m + 1) (rowK (ps.take m) ++ [.int .u64 (x.typ : Int), .int .u64 (x.num : Int), .int .u64 (x.flg : Int), .int .i64 x.crc, .slice Ax nx cx]) (by rfl) OC.out ⟨gy, 0, none⟩ 1 1 [.int .u64 (xm.typ : Int), .int .u64 (xm.num : Int), .int .u64 (xm.flg : Int), .int .i64 xm.crc, .slice Am nm cm] (by rfl) rfl RY.out.2 (rowK_one [PK.mk xm Am nm cm]) (by have := HM.out; unfold maxLen; omega) (by have := HM.out; omega) BT.out.size ?_
        intro g' cap' wd ho hg hat hlt
        rw [show (rowK (ps.take m) ++ [.int .u64 (x.typ : Int), .int .u64 (x.num : Int), .int .u64 (x.flg : Int), .int .i64 x.crc, .slice Ax nx cx]) ++ [.int .u64 (xm.typ : Int), .int .u64 (xm.num : Int), .int .u64 (xm.flg : Int), .int .i64 xm.crc, .slice Am nm cm] = rowK (ps.take m ++ [PK.mk x Ax nx cx, PK.mk xm Am nm cm]) by rw [rowK_app, List.append_assoc]; rfl] at ho
        have OC2 := Lib.hid ho
        have BN : Hid (Below w3.heap.size w3 wd) := grownOwn BT.out BT.out.size hg (owns_base OC.out)
        clear BT OC ho hg hat hlt RY NY
        have BT := BN
        have OC := OC2
        clear BN OC2
        refine hK.out _ _ (SX.out _ BT.out) (fun hHeld => ?_)
        try simp only [Act.put]
        try simp only [List.setIfInBounds_toArray]
        try simp only [List.set_cons_succ]
        try simp only [List.set_cons_zero]
        clear hK K hHeld
        clear wc
        obtain ⟨wc, rfl⟩ : ∃ wc, wc = wd := ⟨_, rfl⟩
        obtain ⟨g, rfl⟩ : ∃ g, g = g' := ⟨_, rfl⟩
        obtain ⟨cap, rfl⟩ : ∃ cap, cap = cap' := ⟨_, rfl⟩
        have hHeld := SX.out _ BT.out
        refine takeR (i := 18) (v := ?v18_18) rfl (by kernel_rfl) (by kernel_rfl) (by kernel_rfl) (fun _ _ _ h => h) (by rfl) ?hy18_18 (by assumption) ?rest18_18
        case hy18_18 => (intro W hSw; go_simp; try with_reducible rfl)
        try simp only [Act.put]
        try simp only [List.setIfInBounds_toArray]
        try simp only [List.set_cons_succ]
        try simp only [List.set_cons_zero]
        clear hHeld
        refine wpAnyH_ready (rs := [19]) (by kernel_rfl) (by simp) ?_
        refine AllReadyH.cons rfl (fun K hK => ?_) AllReadyH.nil
        have HY4 := Lib.hid ((BT.out.block w2.heap.size (by have := HSZ3.out; omega)).trans HROW3.out)
        have f17 := row_free HY4.out 17
        have y17 := cell_row HY4.out 17 rfl
        rw [if_pos (by rfl)]
        go_simp
        refine hK.out _ _ ((SX.out _ BT.out).setCell (p := ⟨w2.heap.size, 17, none⟩) (Nat.le_refl _) _) (fun hHeld => ?_)
        try simp only [Act.put]
        try simp only [List.setIfInBounds_toArray]
        try simp only [List.set_cons_succ]
        try simp only [List.set_cons_zero]
        clear hK K hHeld f17 y17
        refine wpAnyH_done (by kernel_rfl) ?_ _
        go_wp2_with fail
        go_meet
        case rel => exact ⟨g, cap, wc, rfl, BT.out, OC.out⟩
      refine AllReadyH.cons rfl (fun K hK => ?_) AllReadyH.nil
      rw [if_pos (by rfl)]
      go_simp
      have RY : Hid (RowAt (wc.alloc (.cells #[.int .u64 (xm.typ : Int), .int .u64 (xm.num : Int), .int .u64 (xm.flg : Int), .int .i64 xm.crc, .slice Am nm cm] 48)) wc.heap.size [.int .u64 (xm.typ : Int), .int .u64 (xm.num : Int), .int .u64 (xm.flg : Int), .int .i64 xm.crc, .slice Am nm cm]) := RowAt.made wc #[.int .u64 (xm.typ : Int), .int .u64 (xm.num : Int), .int .u64 (xm.flg : Int), .int .i64 xm.crc, .slice Am nm cm] 48
      have NY : Hid (wc.heap.size ≠ g) := by show _ ≠ _; have := owns_lt OC.out; omega
      have OC2 := Lib.hid (World.ownsRow.alloc OC.out (.cells #[.int .u64 (xm.typ : Int), .int .u64 (xm.num : Int), .int .u64 (xm.flg : Int), .int .i64 xm.crc, .slice Am nm cm] 48))
      clear OC
      have OC := OC2
      clear OC2
      have BN : Hid (Below w3.heap.size w3 (wc.alloc (.cells #[.int .u64 (xm.typ : Int), .int .u64 (xm.num : Int), .int .u64 (xm.flg : Int), .int .i64 xm.crc, .slice Am nm cm] 48))) := BT.out.alloc BT.out.size _
      clear BT
      have BT := BN
      clear BN
      refine hK.out _ _ (SX.out _ BT.out) (fun hHeld => ?_)
      try simp only [Act.put]
      try simp only [List.setIfInBounds_toArray]
      try simp only [List.set_cons_succ]
      try simp only [List.set_cons_zero]
      clear hK K hHeld
      generalize wc.alloc (.cells #[.int .u64 (xm.typ : Int), .int .u64 (xm.num : Int), .int .u64 (xm.flg : Int), .int .i64 xm.crc, .slice Am nm cm] 48) = wd at *
      generalize wc.heap.size = gy at *
      clear wc
      obtain ⟨wc, rfl⟩ : ∃ wc, wc = wd := ⟨_, rfl⟩
      refine wpAnyH_ready (rs := [6, 8]) (by kernel_rfl) (by simp) ?_
      refine AllReadyH.cons rfl (fun K hK => ?_) ?_
      · skip
        refine step_append_z (by rfl) (.tmp 19) (.tmp 24) 71 (by rfl) w3.heap.size 48 i0 _ 5 56 Tryz.underlying71 HI.out HZ0.out HZ1.out HZ2.out rfl (by decide) g 0 0 [] (by rfl) OC.out ⟨b, o, none⟩ m c (rowK (ps.take m)) (by rfl) HLO.out (HOL.out _ BT.out) (rowK_one _) (by have := HM.out; unfold maxLen; omega) (by have := HM.out; omega) BT.out.size ?_
        intro g' cap' wd ho hg hat hlt
        rw [Nat.zero_add, List.nil_append] at ho; rw [Nat.zero_add]
        have OC2 := Lib.hid ho
        have BN : Hid (Below w3.heap.size w3 wd) := grownOwn BT.out BT.out.size hg (owns_base OC.out)
        have NY2 : Hid (gy ≠ g') := ne_grown NY.out RY.out.1 hat
        have RY2 := Lib.hid (RY.out.grown hg NY.out)
        clear RY NY
        have RY := RY2
        have NY := NY2
        clear RY2 NY2
        clear BT OC ho hg hat hlt
        have BT := BN
        have OC := OC2
        clear BN OC2
        refine hK.out _ _ (SX.out _ BT.out) (fun hHeld => ?_)
        try simp only [Act.put]
        try simp only [List.setIfInBounds_toArray]
        try simp only [List.set_cons_succ]
        try simp only [List.set_cons_zero]
        clear hK K hHeld
        clear wc
        obtain ⟨wc, rfl⟩ : ∃ wc, wc = wd := ⟨_, rfl⟩
        obtain ⟨g, rfl⟩ : ∃ g, g = g' := ⟨_, rfl⟩
        obtain ⟨cap, rfl⟩ : ∃ cap, cap = cap' := ⟨_, rfl⟩
        refine wpAnyH_ready (rs := [8]) (by kernel_rfl) (by simp) ?_
        refine AllReadyH.cons rfl (fun K hK => ?_) AllReadyH.nil
        rw [if_pos (by rfl)]
        go_simp
        have RX : Hid (RowAt (wc.alloc (.cells #[.int .u64 (x.typ : Int), .int .u64 (x.num : Int), .int .u64 (x.flg : Int), .int .i64 x.crc, .slice Ax nx cx] 48)) wc.heap.size [.int .u64 (x.typ : Int), .int .u64 (x.num : Int), .int .u64 (x.flg : Int), .int .i64 x.crc, .slice Ax nx cx]) := RowAt.made wc #[.int .u64 (x.typ : Int), .int .u64 (x.num : Int), .int .u64 (x.flg : Int), .int .i64 x.crc, .slice Ax nx cx] 48
        have NX : Hid (wc.heap.size ≠ g) := by show _ ≠ _; have := owns_lt OC.out; omega
        have OC2 := Lib.hid (World.ownsRow.alloc OC.out (.cells #[.int .u64 (x.typ : Int), .int .u64 (x.num : Int), .int .u64 (x.flg : Int), .int .i64 x.crc, .slice Ax nx cx] 48))
        clear OC
        have OC := OC2
        clear OC2
        have RY2 := Lib.hid (RY.out.alloc (.cells #[.int .u64 (x.typ : Int), .int .u64 (x.num : Int), .int .u64 (x.flg : Int), .int .i64 x.crc, .slice Ax nx cx] 48))
        clear RY
        have RY := RY2
        clear RY2
        have BN : Hid (Below w3.heap.size w3 (wc.alloc (.cells #[.int .u64 (x.typ : Int), .int .u64 (x.num : Int), .int .u64 (x.flg : Int), .int .i64 x.crc, .slice Ax nx cx] 48))) := BT.out.alloc BT.out.size _
        clear BT
        have BT := BN
        clear BN
        refine hK.out _ _ (SX.out _ BT.out) (fun hHeld => ?_)
        try simp only [Act.put]
        try simp only [List.setIfInBounds_toArray]
        try simp only [List.set_cons_succ]
        try simp only [List.set_cons_zero]
        clear hK K hHeld
        generalize wc.alloc (.cells #[.int .u64 (x.typ : Int), .int .u64 (x.num : Int), .int .u64 (x.flg : Int), .int .i64 x.crc, .slice Ax nx cx] 48) = wd at *
        generalize wc.heap.size = gx at *
        clear wc
        obtain ⟨wc, rfl⟩ : ∃ wc, wc = wd := ⟨_, rfl⟩
        refine wpAnyH_ready (rs := [9]) (by kernel_rfl) (by simp) ?_
        refine AllReadyH.cons rfl (fun K hK => ?_) AllReadyH.nil
        refine step_append_z (by rfl) (.tmp 25) (.tmp 27) 71 (by rfl) w3.heap.size 48 i0 _ 5 56 Tryz.underlying71 HI.out HZ0.out HZ1.out HZ2.out rfl (by decide) g cap m (rowK (ps.take m)) (by rfl) OC.out ⟨gx, 0, none⟩ 1 1 [.int .u64 (x.typ : Int), .int .u64 (x.num : Int), .int .u64 (x.flg : Int), .int .i64 x.crc, .slice Ax nx cx] (by rfl) rfl RX.out.2 (rowK_one [PK.mk x Ax nx cx]) (by have := HM.out; unfold maxLen; omega) (by have := HM.out; omega) BT.out.size ?_
        intro g' cap' wd ho hg hat hlt
        have OC2 := Lib.hid ho
        have BN : Hid (Below w3.heap.size w3 wd) := grownOwn BT.out BT.out.size hg (owns_base OC.out)
        have NY2 : Hid (gy ≠ g') := ne_grown NY.out RY.out.1 hat
        have RY2 := Lib.hid (RY.out.grown hg NY.out)
        clear RY NY
        have RY := RY2
        have NY := NY2
        clear RY2 NY2
        clear BT OC ho hg hat hlt RX NX
        have BT := BN
        have OC := OC2
        clear BN OC2
        refine hK.out _ _ (SX.out _ BT.out) (fun hHeld => ?_)
        try simp only [Act.put]
        try simp only [List.setIfInBounds_toArray]
        try simp only [List.set_cons_succ]
        try simp only [List.set_cons_zero]
        clear hK K hHeld
        clear wc
        obtain ⟨wc, rfl⟩ : ∃ wc, wc = wd := ⟨_, rfl⟩
        obtain ⟨g, rfl⟩ : ∃ g, g = g' := ⟨_, rfl⟩
        obtain ⟨cap, rfl⟩ : ∃ cap, cap = cap' := ⟨_, rfl⟩
        refine wpAnyH_ready (rs := [17]) (by kernel_rfl) (by simp) ?_
        refine AllReadyH.cons rfl (fun K hK => ?_) AllReadyH.nil
        refine step_append_z (by rfl) (.tmp 28) (.tmp 35) 71 (by rfl) w3.heap.size 48 i0 _ 5 56 Tryz.underlying71 HI.out HZ0.out HZ1.out HZ2.out rfl (by decide) g cap (m + 1) (rowK (ps.take m) ++ [.int .u64 (x.typ : Int), .int .u64 (x.num : Int), .int .u64 (x.flg : Int), .int .i64 x.crc, .slice Ax nx cx]) (by rfl) OC.out ⟨gy, 0, none⟩ 1 1 [.int .u64 (xm.typ : Int), .int .u64 (xm.num : Int), .int .u64 (xm.flg : Int), .int .i64 xm.crc, .slice Am nm cm] (by rfl) rfl RY.out.2 (rowK_one [PK.mk xm Am nm cm]) (by have := HM.out; unfold maxLen; omega) (by have := HM.out; omega) BT.out.size ?_
        intro g' cap' wd ho hg hat hlt
        rw [show (rowK (ps.take m) ++ [.int .u64 (x.typ : Int), .int .u64 (x.num : Int), .int .u64 (x.flg : Int), .int .i64 x.crc, .slice Ax nx cx]) ++ [.int .u64 (xm.typ : Int), .int .u64 (xm.num : Int), .int .u64 (xm.flg : Int), .int .i64 xm.crc, .slice Am nm cm] = rowK (ps.take m ++ [PK.mk x Ax nx cx, PK.mk xm Am nm cm]) by rw [rowK_app, List.append_assoc]; rfl] at ho
        have OC2 := Lib.hid ho
        have BN : Hid (Below w3.heap.size w3 wd) := grownOwn BT.out BT.out.size hg (owns_base OC.out)
        clear BT OC ho hg hat hlt RY NY
        have BT := BN
        have OC := OC2
        clear BN OC2
        refine hK.out _ _ (SX.out _ BT.out) (fun hHeld => ?_)
        try simp only [Act.put]
        try simp only [List.setIfInBounds_toArray]
        try simp only [List.set_cons_succ]
        try simp only [List.set_cons_zero]
        clear hK K hHeld
        clear wc
        obtain ⟨wc, rfl⟩ : ∃ wc, wc = wd := ⟨_, rfl⟩
        obtain ⟨g, rfl⟩ : ∃ g, g = g' := ⟨_, rfl⟩
        obtain ⟨cap, rfl⟩ : ∃ cap, cap = cap' := ⟨_, rfl⟩
        have hHeld := SX.out _ BT.out
        refine takeR (i := 18) (v := ?v18_19) rfl (by kernel_rfl) (by kernel_rfl) (by kernel_rfl) (fun _ _ _ h => h) (by rfl) ?hy18_19 (by assumption) ?rest18_19
        case hy18_19 => (intro W hSw; go_simp; try with_reducible rfl)
        try simp only [Act.put]
        try simp only [List.setIfInBounds_toArray]
        try simp only [List.set_cons_succ]
        try simp only [List.set_cons_zero]
        clear hHeld
        refine wpAnyH_ready (rs := [19]) (by kernel_rfl) (by simp) ?_
        refine AllReadyH.cons rfl (fun K hK => ?_) AllReadyH.nil
        have HY4 := Lib.hid ((BT.out.block w2.heap.size (by have := HSZ3.out; omega)).trans HROW3.out)
        have f17 := row_free HY4.out 17
        have y17 := cell_row HY4.out 17 rfl
        rw [if_pos (by rfl)]
        go_simp
        refine hK.out _ _ ((SX.out _ BT.out).setCell (p := ⟨w2.heap.size, 17, none⟩) (Nat.le_refl _) _) (fun hHeld => ?_)
        try simp only [Act.put]
        try simp only [List.setIfInBounds_toArray]
        try simp only [List.set_cons_succ]
        try simp only [List.set_cons_zero]
        clear hK K hHeld f17 y17
        refine wpAnyH_done (by kernel_rfl) ?_ _
        go_wp2_with fail
        go_meet
        case rel => exact ⟨g, cap, wc, rfl, BT.out, OC.out⟩
      refine AllReadyH.cons rfl (fun K hK => ?_) AllReadyH.nil
      rw [if_pos (by rfl)]
      go_simp
      have RX : Hid (RowAt (wc.alloc (.cells #[.int .u64 (x.typ : Int), .int .u64 (x.num : Int), .int .u64 (x.flg : Int), .int .i64 x.crc, .slice Ax nx cx] 48)) wc.heap.size [.int .u64 (x.typ : Int), .int .u64 (x.num : Int), .int .u64 (x.flg : Int), .int .i64 x.crc, .slice Ax nx cx]) := RowAt.made wc #[.int .u64 (x.typ : Int), .int .u64 (x.num : Int), .int .u64 (x.flg : Int), .int .i64 x.crc, .slice Ax nx cx] 48
      have NX : Hid (wc.heap.size ≠ g) := by show _ ≠ _; have := owns_lt OC.out; omega
      have OC2 := Lib.hid (World.ownsRow.alloc OC.out (.cells #[.int .u64 (x.typ : Int), .int .u64 (x.num : Int), .int .u64 (x.flg : Int), .int .i64 x.crc, .slice Ax nx cx] 48))
      clear OC
      have OC := OC2
      clear OC2
      have RY2 := Lib.hid (RY.out.alloc (.cells #[.int .u64 (x.typ : Int), .int .u64 (x.num : Int), .int .u64 (x.flg : Int), .int .i64 x.crc, .slice Ax nx cx] 48))
      clear RY
      have RY := RY2
      clear RY2
      have BN : Hid (Below w3.heap.size w3 (wc.alloc (.cells #[.int .u64 (x.typ : Int), .int .u64 (x.num : Int), .int .u64 (x.flg : Int), .int .i64 x.crc, .slice Ax nx cx] 48))) := BT.out.alloc BT.out.size _
      clear BT
      have BT := BN
      clear BN
      refine hK.out _ _ (SX.out _ BT.out) (fun hHeld => ?_)
      try simp only [Act.put]
      try simp only [List.setIfInBounds_toArray]
      try simp only [List.set_cons_succ]
      try simp only [List.set_cons_zero]
      clear hK K hHeld
      generalize wc.alloc (.cells #[.int .u64 (x.typ : Int), .int .u64 (x.num : Int), .int .u64 (x.flg : Int), .int .i64 x.crc, .slice Ax nx cx] 48) = wd at *
      generalize wc.heap.size = gx at *
      clear wc
      obtain ⟨wc, rfl⟩ : ∃ wc, wc = wd := ⟨_, rfl⟩
      refine wpAnyH_ready (rs := [6]) (by kernel_rfl) (by simp) ?_
      refine AllReadyH.cons rfl (fun K hK => ?_) AllReadyH.nil
      refine step_append_z (by rfl) (.tmp 19) (.tmp 24) 71 (by rfl) w3.heap.size 48 i0 _ 5 56 Tryz.underlying71 HI.out HZ0.out HZ1.out HZ2.out rfl (by decide) g 0 0 [] (by rfl) OC.out ⟨b, o, none⟩ m c (rowK (ps.take m)) (by rfl) HLO.out (HOL.out _ BT.out) (rowK_one _) (by have := HM.out; unfold maxLen; omega) (by have := HM.out; omega) BT.out.size ?_
      intro g' cap' wd ho hg hat hlt
      rw [Nat.zero_add, List.nil_append] at ho; rw [Nat.zero_add]
      have OC2 := Lib.hid ho
      have BN : Hid (Below w3.heap.size w3 wd) := grownOwn BT.out BT.out.size hg (owns_base OC.out)
      have NX2 : Hid (gx ≠ g') := ne_grown NX.out RX.out.1 hat
      have RX2 := Lib.hid (RX.out.grown hg NX.out)
      clear RX NX
      have RX := RX2
      have NX := NX2
      clear RX2 NX2
      have NY2 : Hid (gy ≠ g') := ne_grown NY.out RY.out.1 hat
      have RY2 := Lib.hid (RY.out.grown hg NY.out)
      clear RY NY
      have RY := RY2
      have NY := NY2
      clear RY2 NY2
      clear BT OC ho hg hat hlt
      have BT := BN
      have OC := OC2
      clear BN OC2
      refine hK.out _ _ (SX.out _ BT.out) (fun hHeld => ?_)
      try simp only [Act.put]
      try simp only [List.setIfInBounds_toArray]
      try simp only [List.set_cons_succ]
      try simp only [List.set_cons_zero]
      clear hK K hHeld
      clear wc
      obtain ⟨wc, rfl⟩ : ∃ wc, wc = wd := ⟨_, rfl⟩
      obtain ⟨g, rfl⟩ : ∃ g, g = g' := ⟨_, rfl⟩
      obtain ⟨cap, rfl⟩ : ∃ cap, cap = cap' := ⟨_, rfl⟩
      refine wpAnyH_ready (rs := [9]) (by kernel_rfl) (by simp) ?_
      refine AllReadyH.cons rfl (fun K hK => ?_) AllReadyH.nil
      refine step_append_z (by rfl) (.tmp 25) (.tmp 27) 71 (by rfl) w3.heap.size 48 i0 _ 5 56 Tryz.underlying71 HI.out HZ0.out HZ1.out HZ2.out rfl (by decide) g cap m (rowK (ps.take m)) (by rfl) OC.out ⟨gx, 0, none⟩ 1 1 [.int .u64 (x.typ : Int), .int .u64 (x.num : Int), .int .u64 (x.flg : Int), .int .i64 x.crc, .slice Ax nx cx] (by rfl) rfl RX.out.2 (rowK_one [PK.mk x Ax nx cx]) (by have := HM.out; unfold maxLen; omega) (by have := HM.out; omega) BT.out.size ?_
      intro g' cap' wd ho hg hat hlt
      have OC2 := Lib.hid ho
      have BN : Hid (Below w3.heap.size w3 wd) := grownOwn BT.out BT.out.size hg (owns_base OC.out)
      have NY2 : Hid (gy ≠ g') := ne_grown NY.out RY.out.1 hat
      have RY2 := Lib.hid (RY.out.grown hg NY.out)
      clear RY NY
      have RY := RY2
      have NY := NY2
      clear RY2 NY2
      clear BT OC ho hg hat hlt RX NX
      have BT := BN
      have OC := OC2
      clear BN OC2
      refine hK.out _ _ (SX.out _ BT.out) (fun hHeld => ?_)
      try simp only [Act.put]
      try simp only [List.setIfInBounds_toArray]
      try simp only [List.set_cons_succ]
      try simp only [List.set_cons_zero]
      clear hK K hHeld
      clear wc
      obtain ⟨wc, rfl⟩ : ∃ wc, wc = wd := ⟨_, rfl⟩
      obtain ⟨g, rfl⟩ : ∃ g, g = g' := ⟨_, rfl⟩
      obtain ⟨cap, rfl⟩ : ∃ cap, cap = cap' := ⟨_, rfl⟩
      refine wpAnyH_ready (rs := [17]) (by kernel_rfl) (by simp) ?_
      refine AllReadyH.cons rfl (fun K hK => ?_) AllReadyH.nil
      refine step_append_z (by rfl) (.tmp 28) (.tmp 35) 71 (by rfl) w3.heap.size 48 i0 _ 5 56 Tryz.underlying71 HI.out HZ0.out HZ1.out HZ2.out rfl (by decide) g cap (m + 1) (rowK (ps.take m) ++ [.int .u64 (x.typ : Int), .int .u64 (x.num : Int), .int .u64 (x.flg : Int), .int .i64 x.crc, .slice Ax nx cx]) (by rfl) OC.out ⟨gy, 0, none⟩ 1 1 [.int .u64 (xm.typ : Int), .int .u64 (xm.num : Int), .int .u64 (xm.flg : Int), .int .i64 xm.crc, .slice Am nm cm] (by rfl) rfl RY.out.2 (rowK_one [PK.mk xm Am nm cm]) (by have := HM.out; unfold maxLen; omega) (by have := HM.out; omega) BT.out.size ?_
      intro g' cap' wd ho hg hat hlt
      rw [show (rowK (ps.take m) ++ [.int .u64 (x.typ : Int), .int .u64 (x.num : Int), .int .u64 (x.flg : Int), .int .i64 x.crc, .slice Ax nx cx]) ++ [.int .u64 (xm.typ : Int), .int .u64 (xm.num : Int), .int .u64 (xm.flg : Int), .int .i64 xm.crc, .slice Am nm cm] = rowK (ps.take m ++ [PK.mk x Ax nx cx, PK.mk xm Am nm cm]) by rw [rowK_app, List.append_assoc]; rfl] at ho
      have OC2 := Lib.hid ho
      have BN : Hid (Below w3.heap.size w3 wd) := grownOwn BT.out BT.out.size hg (owns_base OC.out)
      clear BT OC ho hg hat hlt RY NY
      have BT := BN
      have OC := OC2
      clear BN OC2
      refine hK.out _ _ (SX.out _ BT.out) (fun hHeld => ?_)
      try simp only [Act.put]
      try simp only [List.setIfInBounds_toArray]
      try simp only [List.set_cons_succ]
      try simp only [List.set_cons_zero]
      clear hK K hHeld
      clear wc
      obtain ⟨wc, rfl⟩ : ∃ wc, wc = wd := ⟨_, rfl⟩
      obtain ⟨g, rfl⟩ : ∃ g, g = g' := ⟨_, rfl⟩
      obtain ⟨cap, rfl⟩ : ∃ cap, cap = cap' := ⟨_, rfl⟩
      have hHeld := SX.out _ BT.out
      refine takeR (i := 18) (v := ?v18_20) rfl (by kernel_rfl) (by kernel_rfl) (by kernel_rfl) (fun _ _ _ h => h) (by rfl) ?hy18_20 (by assumption) ?rest18_20
      case hy18_20 => (intro W hSw; go_simp; try with_reducible rfl)
      try simp only [Act.put]
      try simp only [List.setIfInBounds_toArray]
      try simp only [List.set_cons_succ]
      try simp only [List.set_cons_zero]
      clear hHeld
      refine wpAnyH_ready (rs := [19]) (by kernel_rfl) (by simp) ?_
      refine AllReadyH.cons rfl (fun K hK => ?_) AllReadyH.nil
      have HY4 := Lib.hid ((BT.out.block w2.heap.size (by have := HSZ3.out; omega)).trans HROW3.out)
      have f17 := row_free HY4.out 17
      have y17 := cell_row HY4.out 17 rfl
      rw [if_pos (by rfl)]
      go_simp
      refine hK.out _ _ ((SX.out _ BT.out).setCell (p := ⟨w2.heap.size, 17, none⟩) (Nat.le_refl _) _) (fun hHeld => ?_)
      try simp only [Act.put]
      try simp only [List.setIfInBounds_toArray]
      try simp only [List.set_cons_succ]
      try simp only [List.set_cons_zero]
      clear hK K hHeld f17 y17
      refine wpAnyH_done (by kernel_rfl) ?_ _
      go_wp2_with fail
      go_meet
      case rel => exact ⟨g, cap, wc, rfl, BT.out, OC.out⟩
    refine AllReadyH.cons rfl (fun K hK => ?_) ?_
    · skip
      rw [if_pos (by rfl)]
      go_simp
      have RX : Hid (RowAt (wc.alloc (.cells #[.int .u64 (x.typ : Int), .int .u64 (x.num : Int), .int .u64 (x.flg : Int), .int .i64 x.crc, .slice Ax nx cx] 48)) wc.heap.size [.int .u64 (x.typ : Int), .int .u64 (x.num : Int), .int .u64 (x.flg : Int), .int .i64 x.crc, .slice Ax nx cx]) := RowAt.made wc #[.int .u64 (x.typ : Int), .int .u64 (x.num : Int), .int .u64 (x.flg : Int), .int .i64 x.crc, .slice Ax nx cx] 48
      have BN : Hid (Below w3.heap.size w3 (wc.alloc (.cells #[.int .u64 (x.typ : Int), .int .u64 (x.num : Int), .int .u64 (x.flg : Int), .int .i64 x.crc, .slice Ax nx cx] 48))) := BT.out.alloc BT.out.size _
      clear BT
      have BT := BN
      clear BN
      refine hK.out _ _ (SX.out _ BT.out) (fun hHeld => ?_)
      try simp only [Act.put]
      try simp only [List.setIfInBounds_toArray]
      try simp only [List.set_cons_succ]
      try simp only [List.set_cons_zero]
      clear hK K hHeld
      generalize wc.alloc (.cells #[.int .u64 (x.typ : Int), .int .u64 (x.num : Int), .int .u64 (x.flg : Int), .int .i64 x.crc, .slice Ax nx cx] 48) = wd at *
      generalize wc.heap.size = gx at *
      clear wc
      obtain ⟨wc, rfl⟩ : ∃ wc, wc = wd := ⟨_, rfl⟩
      refine wpAnyH_ready (rs := [0, 16]) (by kernel_rfl) (by simp) ?_
      refine AllReadyH.cons rfl (fun K hK => ?_) ?_
      · skip
        rw [if_pos (by rfl)]
        go_simp
        have OC : Hid ((wc.alloc (.cells #[] 48)).ownsRow w3.heap.size 48 5 (.slice (some ⟨wc.heap.size, 0, none⟩) 0 0) 0 []) := World.ownsRow_lit (base := w3.heap.size) (e := 48) (size := 5) wc #[] 0 BT.out.size (by decide) rfl
        have NX : Hid (gx ≠ wc.heap.size) := by show _ ≠ _; have := RX.out.1; omega
        have RX2 := Lib.hid (RX.out.alloc (.cells #[] 48))
        clear RX
        have RX := RX2
        clear RX2
        have BN : Hid (Below w3.heap.size w3 (wc.alloc (.cells #[] 48))) := BT.out.alloc BT.out.size _
        clear BT
        have BT := BN
        clear BN
        refine hK.out _ _ (SX.out _ BT.out) (fun hHeld => ?_)
        try simp only [Act.put]
        try simp only [List.setIfInBounds_toArray]
        try simp only [List.set_cons_succ]
        try simp only [List.set_cons_zero]
        clear hK K hHeld
        generalize wc.alloc (.cells #[] 48) = wd at *
        generalize wc.heap.size = g at *
        clear wc
        obtain ⟨wc, rfl⟩ : ∃ wc, wc = wd := ⟨_, rfl⟩
        refine wpAnyH_ready (rs := [6, 16]) (by kernel_rfl) (by simp) ?_
        refine AllReadyH.cons rfl (fun K hK => ?_) ?_
        · skip
          refine step_append_z (by rfl) (.tmp 19) (.tmp 24) 71 (by rfl) w3.heap.size 48 i0 _ 5 56 Tryz.underlying71 HI.out HZ0.out HZ1.out HZ2.out rfl (by decide) g 0 0 [] (by rfl) OC.out ⟨b, o, none⟩ m c (rowK (ps.take m)) (by rfl) HLO.out (HOL.out _ BT.out) (rowK_one _) (by have := HM.out; unfold maxLen; omega) (by have := HM.out; omega) BT.out.size ?_
          intro g' cap' wd ho hg hat hlt
          rw [Nat.zero_add, List.nil_append] at ho; rw [Nat.zero_add]
          have OC2 := Lib.hid ho
          have BN : Hid (Below w3.heap.size w3 wd) := grownOwn BT.out BT.out.size hg (owns_base OC.out)
          have NX2 : Hid (gx ≠ g') := ne_grown NX.out RX.out.1 hat
          have RX2 := Lib.hid (RX.out.grown hg NX.out)
          clear RX NX
          have RX := RX2
          have NX := NX2
          clear RX2 NX2
          clear BT OC ho hg hat hlt
          have BT := BN
          have OC := OC2
          clear BN OC2
          refine hK.out _ _ (SX.out _ BT.out) (fun hHeld => ?_)
          try simp only [Act.put]
          try simp only [List.setIfInBounds_toArray]
          try simp only [List.set_cons_succ]
          try simp only [List.set_cons_zero]
          clear hK K hHeld
          clear wc
          obtain ⟨wc, rfl⟩ : ∃ wc, wc = wd := ⟨_, rfl⟩
          obtain ⟨g, rfl⟩ : ∃ g, g = g' := ⟨_, rfl⟩
          obtain ⟨cap, rfl⟩ : ∃ cap, cap = cap' := ⟨_, rfl⟩
          refine wpAnyH_ready (rs := [9, 16]) (by kernel_rfl) (by simp) ?_
          refine AllReadyH.cons rfl (fun K hK => ?_) ?_
          · skip
            refine step_append_z (by rfl) (.tmp 25) (.tmp 27) 71 (by rfl) w3.heap.size 48 i0 _ 5 56 Tryz.underlying71 HI.out HZ0.out HZ1.out HZ2.out rfl (by decide) g cap m (rowK (ps.take m)) (by rfl) OC.out ⟨gx, 0, none⟩ 1 1 [.int .u64 (x.typ : Int), .int .u64 (x.num : Int), .int .u64 (x.flg : Int), .int .i64 x.crc, .slice Ax nx cx] (by rfl) rfl RX.out.2 (rowK_one [PK.mk x Ax nx cx]) (by have := HM.out; unfold maxLen; omega) (by have := HM.out; omega) BT.out.size ?_
            intro g' cap' wd ho hg hat hlt
            have OC2 := Lib.hid ho
            have BN : Hid (Below w3.heap.size w3 wd) := grownOwn BT.out BT.out.size hg (owns_base OC.out)
            clear BT OC ho hg hat hlt RX NX
            have BT := BN
            have OC := OC2
            clear BN OC2
            refine hK.out _ _ (SX.out _ BT.out) (fun hHeld => ?_)
            try simp only [Act.put]
            try simp only [List.setIfInBounds_toArray]
            try simp only [List.set_cons_succ]
            try simp only [List.set_cons_zero]
            clear hK K hHeld
            clear wc
            obtain ⟨wc, rfl⟩ : ∃ wc, wc = wd := ⟨_, rfl⟩
            obtain ⟨g, rfl⟩ : ∃ g, g = g' := ⟨_, rfl⟩
            obtain ⟨cap, rfl⟩ : ∃ cap, cap = cap' := ⟨_, rfl⟩
            refine wpAnyH_ready (rs := [16]) (by kernel_rfl) (by simp) ?_
            refine AllReadyH.cons rfl (fun K hK => ?_) AllReadyH.nil
            rw [if_pos (by rfl)]
            go_simp
            have RY : Hid (RowAt (wc.alloc (.cells #[.int .u64 (xm.typ : Int), .int .u64 (xm.num : Int), .int .u64 (xm.flg : Int), .int .i64 xm.crc, .slice Am nm cm] 48)) wc.heap.size [.int .u64 (xm.typ : Int), .int .u64 (xm.num : Int), .int .u64 (xm.flg : Int), .int .i64 xm.crc, .slice Am nm cm]) := RowAt.made wc #[.int .u64 (xm.typ : Int), .int .u64 (xm.num : Int), .int .u64 (xm.flg : Int), .int .i64 xm.crc, .slice Am nm cm] 48
            have NY : Hid (wc.heap.size ≠ g) := by show _ ≠ _; have := owns_lt OC.out; omega
            have OC2 := Lib.hid (World.ownsRow.alloc OC.out (.cells #[.int .u64 (xm.typ : Int), .int .u64 (xm.num : Int), .int .u64 (xm.flg : Int), .int .i64 xm.crc, .slice Am nm cm] 48))
            clear OC
            have OC := OC2
            clear OC2
            have BN : Hid (Below w3.heap.size w3 (wc.alloc (.cells #[.int .u64 (xm.typ : Int), .int .u64 (xm.num : Int), .int .u64 (xm.flg : Int), .int .i64 xm.crc, .slice Am nm cm] 48))) := BT.out.alloc BT.out.size _
            clear BT
            have BT := BN
            clear BN
            refine hK.out _ _ (SX.out _ BT.out) (fun hHeld => ?_)
            try simp only [Act.put]
            try simp only [List.setIfInBounds_toArray]
            try simp only [List.set_cons_succ]
            try simp only [List.set_cons_zero]
            clear hK K hHeld
            generalize wc.alloc (.cells #[.int .u64 (xm.typ : Int), .int .u64 (xm.num : Int), .int .u64 (xm.flg : Int), .int .i64 xm.crc, .slice Am nm cm] 48) = wd at *
            generalize wc.heap.size = gy at *
            clear wc
            obtain ⟨wc, rfl⟩ : ∃ wc, wc = wd := ⟨_, rfl⟩
            refine wpAnyH_ready (rs := [17]) (by kernel_rfl) (by simp) ?_
            refine AllReadyH.cons rfl (fun K hK => ?_) AllReadyH.nil
            refine step_append_z (by rfl) (.tmp 28) (.tmp 35) 71 (by rfl) w3.heap.size 48 i0 _ 5 56 Tryz.underlying71 HI.out HZ0.out HZ1.out HZ2.out rfl (by decide) g cap (m + 1) (rowK (ps.take m) ++ [.int .u64 (x.typ : Int), .int .u64 (x.num : Int), .int .u64 (x.flg : Int), .int .i64 x.crc, .slice Ax nx cx]) (by rfl) OC.out ⟨gy, 0, none⟩ 1 1 [.int .u64 (xm.typ : Int), .int .u64 (xm.num : Int), .int .u64 (xm.flg : Int), .int .i64 xm.crc, .slice Am nm cm] (by rfl) rfl RY.out.2 (rowK_one [PK.mk xm Am nm cm]) (by have := HM.out; unfold maxLen; omega) (by have := HM.out; omega) BT.out.size ?_
            intro g' cap' wd ho hg hat hlt
            rw [show (rowK (ps.take m) ++ [.int .u64 (x.typ : Int), .int .u64 (x.num : Int), .int .u64 (x.flg : Int), .int .i64 x.crc, .slice Ax nx cx]) ++ [.int .u64 (xm.typ : Int), .int .u64 (xm.num : Int), .int .u64 (xm.flg : Int), .int .i64 xm.crc, .slice Am nm cm] = rowK (ps.take m ++ [PK.mk x Ax nx cx, PK.mk xm Am nm cm]) by rw [rowK_app, List.append_assoc]; rfl] at ho
            have OC2 := Lib.hid ho
            have BN : Hid (Below w3.heap.size w3 wd) := grownOwn BT.out BT.out.size hg (owns_base OC.out)
            clear BT OC ho hg hat hlt RY NY
            have BT := BN
            have OC := OC2
            clear BN OC2
            refine hK.out _ _ (SX.out _ BT.out) (fun hHeld => ?_)
            try simp only [Act.put]
            try simp only [List.setIfInBounds_toArray]
            try simp only [List.set_cons_succ]
            try simp only [List.set_cons_zero]
            clear hK K hHeld
            clear wc
            obtain ⟨wc, rfl⟩ : ∃ wc, wc = wd := ⟨_, rfl⟩
            obtain ⟨g, rfl⟩ : ∃ g, g = g' := ⟨_, rfl⟩
            obtain ⟨cap, rfl⟩ : ∃ cap, cap = cap' := ⟨_, rfl⟩
            have hHeld := SX.out _ BT.out
            refine takeR (i := 18) (v := ?v18_21) rfl (by kernel_rfl) (by kernel_rfl) (by kernel_rfl) (fun _ _ _ h => h) (by rfl) ?hy18_21 (by assumption) ?rest18_21
            case hy18_21 => (intro W hSw; go_simp; try with_reducible rfl)
            try simp only [Act.put]
            try simp only [List.setIfInBounds_toArray]
            try simp only [List.set_cons_succ]
            try simp only [List.set_cons_zero]
            clear hHeld
            refine wpAnyH_ready (rs := [19]) (by kernel_rfl) (by simp) ?_
            refine AllReadyH.cons rfl (fun K hK => ?_) AllReadyH.nil
            have HY4 := Lib.hid ((BT.out.block w2.heap.size (by have := HSZ3.out; omega)).trans HROW3.out)
            have f17 := row_free HY4.out 17
            have y17 := cell_row HY4.out 17 rfl
            rw [if_pos (by rfl)]
            go_simp
            refine hK.out _ _ ((SX.out _ BT.out).setCell (p := ⟨w2.heap.size, 17, none⟩) (Nat.le_refl _) _) (fun hHeld => ?_)
            try simp only [Act.put]
            try simp only [List.setIfInBounds_toArray]
            try simp only [List.set_cons_succ]
            try simp only [List.set_cons_zero]
            clear hK K hHeld f17 y17
            refine wpAnyH_done (by kernel_rfl) ?_ _
            go_wp2_with fail
            go_meet
            case rel => exact ⟨g, cap, wc, rfl, BT.out, OC.out⟩
          refine AllReadyH.cons rfl (fun K hK => ?_) AllReadyH.nil
          rw [if_pos (by rfl)]
          go_simp
          have RY : Hid (RowAt (wc.alloc (.cells #[.int .u64 (xm.typ : Int), .int .u64 (xm.num : Int), .int .u64 (xm.flg : Int), .int .i64 xm.crc, .slice Am nm cm] 48)) wc.heap.size [.int .u64 (xm.typ : Int), .int .u64 (xm.num : Int), .int .u64 (xm.flg : Int), .int .i64 xm.crc, .slice Am nm cm]) := RowAt.made wc #[.int .u64 (xm.typ : Int), .int .u64 (xm.num : Int), .int .u64 (xm.flg : Int), .int .i64 xm.crc, .slice Am nm cm] 48
          have NY : Hid (wc.heap.size ≠ g) := by show _ ≠ _; have := owns_lt OC.out; omega
          have OC2 := Lib.hid (World.ownsRow.alloc OC.out (.cells #[.int .u64 (xm.typ : Int), .int .u64 (xm.num : Int), .int .u64 (xm.flg : Int), .int .i64 xm.crc, .slice Am nm cm] 48))
          clear OC
          have OC := OC2
          clear OC2
          have RX2 := Lib.hid (RX.out.alloc (.cells #[.int .u64 (xm.typ : Int), .int .u64 (xm.num : Int), .int .u64 (xm.flg : Int), .int .i64 xm.crc, .slice Am nm cm] 48))
          clear RX
          have RX := RX2
          clear RX2
          have BN : Hid (Below w3.heap.size w3 (wc.alloc (.cells #[.int .u64 (xm.typ : Int), .int .u64 (xm.num : Int), .int .u64 (xm.flg : Int), .int .i64 xm.crc, .slice Am nm cm] 48))) := BT.out.alloc BT.out.size _
          clear BT
          have BT := BN
          clear BN
          refine hK.out _ _ (SX.out _ BT.out) (fun hHeld => ?_)
          try simp only [Act.put]
          try simp only [List.setIfInBounds_toArray]
          try simp only [List.set_cons_succ]
          try simp only [List.set_cons_zero]
          clear hK K hHeld
          generalize wc.alloc (.cells #[.int .u64 (xm.typ : Int), .int .u64 (xm.num : Int), .int .u64 (xm.flg : Int), .int .i64 xm.crc, .slice Am nm cm] 48) = wd at *
          generalize wc.heap.size = gy at *
          clear wc
          obtain ⟨wc, rfl⟩ : ∃ wc, wc = wd := ⟨_, rfl⟩
          refine wpAnyH_ready (rs := [9]) (by kernel_rfl) (by simp) ?_
          refine AllReadyH.cons rfl (fun K hK => ?_) AllReadyH.nil
          refine step_append_z (by rfl) (.tmp 25) (.tmp 27) 71 (by rfl) w3.heap.size 48 i0 _ 5 56 Tryz.underlying71 HI.out HZ0.out HZ1.out HZ2.out rfl (by decide) g cap m (rowK (ps.take m)) (by rfl) OC.out ⟨gx, 0, none⟩ 1 1 [.int .u64 (x.typ : Int), .int .u64 (x.num : Int), .int .u64 (x.flg : Int), .int .i64 x.crc, .slice Ax nx cx] (by rfl) rfl RX.out.2 (rowK_one [PK.mk x Ax nx cx]) (by have := HM.out; unfold maxLen; omega) (by have := HM.out; omega) BT.out.size ?_
          intro g' cap' wd ho hg hat hlt
          have OC2 := Lib.hid ho
          have BN : Hid (Below w3.heap.size w3 wd) := grownOwn BT.out BT.out.size hg (owns_base OC.out)
          have NY2 : Hid (gy ≠ g') := ne_grown NY.out RY.out.1 hat
          have RY2 := Lib.hid (RY.out.grown hg NY.out)
          clear RY NY
          have RY := RY2
          have NY := NY2
          clear RY2 NY2
          clear BT OC ho hg hat hlt RX NX
          have BT := BN
          have OC := OC2
          clear BN OC2
          refine hK.out _ _ (SX.out _ BT.out) (fun hHeld => ?_)
          try simp only [Act.put]
          try simp only [List.setIfInBounds_toArray]
          try simp only [List.set_cons_succ]
          try simp only [List.set_cons_zero]
          clear hK K hHeld
          clear wc
          obtain ⟨wc, rfl⟩ : ∃ wc, wc = wd := ⟨_, rfl⟩
          obtain ⟨g, rfl⟩ : ∃ g, g = g' := ⟨_, rfl⟩
          obtain ⟨cap, rfl⟩ : ∃ cap, cap = cap' := ⟨_, rfl⟩
          refine wpAnyH_ready (rs := [17]) (by kernel_rfl) (by simp) ?_
          refine AllReadyH.cons rfl (fun K hK => ?_) AllReadyH.nil
          refine step_append_z (by rfl) (.tmp 28) (.tmp 35) 71 (by rfl) w3.heap.size 48 i0 _ 5 56 Tryz.underlying71 HI.out HZ0.out HZ1.out HZ2.out rfl (by decide) g cap (m + 1) (rowK (ps.take m) ++ [.int .u64 (x.typ : Int), .int .u64 (x.num : Int), .int .u64 (x.flg : Int), .int .i64 x.crc, .slice Ax nx cx]) (by rfl) OC.out ⟨gy, 0, none⟩ 1 1 [.int .u64 (xm.typ : Int), .int .u64 (xm.num : Int), .int .u64 (xm.flg : Int), .int .i64 xm.crc, .slice Am nm cm] (by rfl) rfl RY.out.2 (rowK_one [PK.mk xm Am nm cm]) (by have := HM.out; unfold maxLen; omega) (by have := HM.out; omega) BT.out.size ?_
          intro g' cap' wd ho hg hat hlt
          rw [show (rowK (ps.take m) ++ [.int .u64 (x.typ : Int), .int .u64 (x.num : Int), .int .u64 (x.flg : Int), .int .i64 x.crc, .slice Ax nx cx]) ++ [.int .u64 (xm.typ : Int), .int .u64 (xm.num : Int), .int .u64 (xm.flg : Int), .int .i64 xm.crc, .slice Am nm cm] = rowK (ps.take m ++ [PK.mk x Ax nx cx, PK.mk xm Am nm cm]) by rw [rowK_app, List.append_assoc]; rfl] at ho
          have OC2 := Lib.hid ho
          have BN : Hid (Below w3.heap.size w3 wd) := grownOwn BT.out BT.out.size hg (owns_base OC.out)
          clear BT OC ho hg hat hlt RY NY
          have BT := BN
          have OC := OC2
          clear BN OC2
          refine hK.out _ _ (SX.out _ BT.out) (fun hHeld => ?_)
          try simp only [Act.put]
          try simp only [List.setIfInBounds_toArray]
          try simp only [List.set_cons_succ]
          try simp only [List.set_cons_zero]
          clear hK K hHeld
          clear wc
          obtain ⟨wc, rfl⟩ : ∃ wc, wc = wd := ⟨_, rfl⟩
          obtain ⟨g, rfl⟩ : ∃ g, g = g' := ⟨_, rfl⟩
          obtain ⟨cap, rfl⟩ : ∃ cap, cap = cap' := ⟨_, rfl⟩
          have hHeld := SX.out _ BT.out
          refine takeR (i := 18) (v := ?v18_22) rfl (by kernel_rfl) (by kernel_rfl) (by kernel_rfl) (fun _ _ _ h => h) (by rfl) ?hy18_22 (by assumption) ?rest18_22
          case hy18_22 => (intro W hSw; go_simp; try with_reducible rfl)
          try simp only [Act.put]
          try simp only [List.setIfInBounds_toArray]
          try simp only [List.set_cons_succ]
          try simp only [List.set_cons_zero]
          clear hHeld
          refine wpAnyH_ready (rs := [19]) (by kernel_rfl) (by simp) ?_
          refine AllReadyH.cons rfl (fun K hK => ?_) AllReadyH.nil
          have HY4 := Lib.hid ((BT.out.block w2.heap.size (by have := HSZ3.out; omega)).trans HROW3.out)
          have f17 := row_free HY4.out 17
          have y17 := cell_row HY4.out 17 rfl
          rw [if_pos (by rfl)]
          go_simp
          refine hK.out _ _ ((SX.out _ BT.out).setCell (p := ⟨w2.heap.size, 17, none⟩) (Nat.le_refl _) _) (fun hHeld => ?_)
          try simp only [Act.put]
          try simp only [List.setIfInBounds_toArray]
          try simp only [List.set_cons_succ]
          try simp only [List.set_cons_zero]
          clear hK K hHeld f17 y17
          refine wpAnyH_done (by kernel_rfl) ?_ _
          go_wp2_with fail
          go_meet
          case rel => exact ⟨g, cap, wc, rfl, BT.out, OC.out⟩
        refine AllReadyH.cons rfl (fun K hK => ?_) AllReadyH.nil
        rw [if_pos (by rfl)]
        go_simp
        have RY : Hid (RowAt (wc.alloc (.cells #[.int .u64 (xm.typ : Int), .int .u64 (xm.num : Int), .int .u64 (xm.flg : Int), .int .i64 xm.crc, .slice Am nm cm] 48)) wc.heap.size [.int .u64 (xm.typ : Int), .int .u64 (xm.num : Int), .int .u64 (xm.flg : Int), .int .i64 xm.crc, .slice Am nm cm]) := RowAt.made wc #[.int .u64 (xm.typ : Int), .int .u64 (xm.num : Int), .int .u64 (xm.flg : Int), .int .i64 xm.crc, .slice Am nm cm] 48
        have NY : Hid (wc.heap.size ≠ g) := by show _ ≠ _; have := owns_lt OC.out; omega
        have OC2 := Lib.hid (World.ownsRow.alloc OC.out (.cells #[.int .u64 (xm.typ : Int), .int .u64 (xm.num : Int), .int .u64 (xm.flg : Int), .int .i64 xm.crc, .slice Am nm cm] 48))
        clear OC
        have OC := OC2
        clear OC2
        have RX2 := Lib.hid (RX.out.alloc (.cells #[.int .u64 (xm.typ : Int), .int .u64 (xm.num : Int), .int .u64 (xm.flg : Int), .int .i64 xm.crc, .slice Am nm cm] 48))
        clear RX
        have RX := RX2
        clear RX2
        have BN : Hid (Below w3.heap.size w3 (wc.alloc (.cells #[.int .u64 (xm.typ : Int), .int .u64 (xm.num : Int), .int .u64 (xm.flg : Int), .int .i64 xm.crc, .slice Am nm cm] 48))) := BT.out.alloc BT.out.size _
        clear BT
        have BT := BN
        clear BN
        refine hK.out _ _ (SX.out _ BT.out) (fun hHeld => ?_)
        try simp only [Act.put]
        try simp only [List.setIfInBounds_toArray]
        try simp only [List.set_cons_succ]
        try simp only [List.set_cons_zero]
        clear hK K hHeld
        generalize wc.alloc (.cells #[.int .u64 (xm.typ : Int), .int .u64 (xm.num : Int), .int .u64 (xm.flg : Int), .int .i64 xm.crc, .slice Am nm cm] 48) = wd at *
        generalize wc.heap.size = gy at *
        clear wc
        obtain ⟨wc, rfl⟩ : ∃ wc, wc = wd := ⟨_, rfl⟩
        refine wpAnyH_ready (rs := [6]) (by kernel_rfl) (by simp) ?_
        refine AllReadyH.cons rfl (fun K hK => ?_) AllReadyH.nil
        refine step_append_z (by rfl) (.tmp 19) (.tmp 24) 71 (by rfl) w3.heap.size 48 i0 _ 5 56 Tryz.underlying71 HI.out HZ0.out HZ1.out HZ2.out rfl (by decide) g 0 0 [] (by rfl) OC.out ⟨b, o, none⟩ m c (rowK (ps.take m)) (by rfl) HLO.out (HOL.out _ BT.out) (rowK_one _) (by have := HM.out; unfold maxLen; omega) (by have := HM.out; omega) BT.out.size ?_
        intro g' cap' wd ho hg hat hlt
        rw [Nat.zero_add, List.nil_append] at ho; rw [Nat.zero_add]
        have OC2 := Lib.hid ho
        have BN : Hid (Below w3.heap.size w3 wd) := grownOwn BT.out BT.out.size hg (owns_base OC.out)
        have NX2 : Hid (gx ≠ g') := ne_grown NX.out RX.out.1 hat
        have RX2 := Lib.hid (RX.out.grown hg NX.out)
        clear RX NX
        have RX := RX2
        have NX := NX2
        clear RX2 NX2
        have NY2 : Hid (gy ≠ g') := ne_grown NY.out RY.out.1 hat
        have RY2 := Lib.hid (RY.out.grown hg NY.out)
        clear RY NY
        have RY := RY2
        have NY := NY2
        clear RY2 NY2
        clear BT OC ho hg hat hlt
        have BT := BN
        have OC := OC2
        clear BN OC2
        refine hK.out _ _ (SX.out _ BT.out) (fun hHeld => ?_)
        try simp only [Act.put]
        try simp only [List.setIfInBounds_toArray]
        try simp only [List.set_cons_succ]
        try simp only [List.set_cons_zero]
        clear hK K hHeld
        clear wc
        obtain ⟨wc, rfl⟩ : ∃ wc, wc = wd := ⟨_, rfl⟩
        obtain ⟨g, rfl⟩ : ∃ g, g = g' := ⟨_, rfl⟩
        obtain ⟨cap, rfl⟩ : ∃ cap, cap = cap' := ⟨_, rfl⟩
        refine wpAnyH_ready (rs := [9]) (by kernel_rfl) (by simp) ?_
        refine AllReadyH.cons rfl (fun K hK => ?_) AllReadyH.nil
        refine step_append_z (by rfl) (.tmp 25) (.tmp 27) 71 (by rfl) w3.heap.size 48 i0 _ 5 56 Tryz.underlying71 HI.out HZ0.out HZ1.out HZ2.out rfl (by decide) g cap m (rowK (ps.take m)) (by rfl) OC.out ⟨gx, 0, none⟩ 1 1 [.int .u64 (x.typ : Int), .int .u64 (x.num : Int), .int .u64 (x.flg : Int), .int .i64 x.crc, .slice Ax nx cx] (by rfl) rfl RX.out.2 (rowK_one [PK.mk x Ax nx cx]) (by have := HM.out; unfold maxLen; omega) (by have := HM.out; omega) BT.out.size ?_
        intro g' cap' wd ho hg hat hlt
        have OC2 := Lib.hid ho
        have BN : Hid (Below w3.heap.size w3 wd) := grownOwn BT.out BT.out.size hg (owns_base OC.out)
        have NY2 : Hid (gy ≠ g') := ne_grown NY.out RY.out.1 hat
        have RY2 := Lib.hid (RY.out.grown hg NY.out)
        clear RY NY
        have RY := RY2
        have NY := NY2
        clear RY2 NY2
        clear BT OC ho hg hat hlt RX NX
        have BT := BN
        have OC := OC2
        clear BN OC2
        refine hK.out _ _ (SX.out _ BT.out) (fun hHeld => ?_)
        try simp only [Act.put]
        try simp only [List.setIfInBounds_toArray]
        try simp only [List.set_cons_succ]
        try simp only [List.set_cons_zero]
        clear hK K hHeld
        clear wc
        obtain ⟨wc, rfl⟩ : ∃ wc, wc = wd := ⟨_, rfl⟩
        obtain ⟨g, rfl⟩ : ∃ g, g = g' := ⟨_, rfl⟩
        obtain ⟨cap, rfl⟩ : ∃ cap, cap = cap' := ⟨_, rfl⟩
        refine wpAnyH_ready (rs := [17]) (by kernel_rfl) (by simp) ?_
        refine AllReadyH.cons rfl (fun K hK => ?_) AllReadyH.nil
        refine step_append_z (by rfl) (.tmp 28) (.tmp 35) 71 (by rfl) w3.heap.size 48 i0 _ 5 56 Tryz.underlying71 HI.out HZ0.out HZ1.out HZ2.out rfl (by decide) g cap (m + 1) (rowK (ps.take m) ++ [.int .u64 (x.typ : Int), .int .u64 (x.num : Int), .int .u64 (x.flg : Int), .int .i64 x.crc, .slice Ax nx cx]) (by rfl) OC.out ⟨gy, 0, none⟩ 1 1 [.int .u64 (xm.typ : Int), .int .u64 (xm.num : Int), .int .u64 (xm.flg : Int), .int .i64 xm.crc, .slice Am nm cm] (by rfl) rfl RY.out.2 (rowK_one [PK.mk xm Am nm cm]) (by have := HM.out; unfold maxLen; omega) (by have := HM.out; omega) BT.out.size ?_
        intro g' cap' wd ho hg hat hlt
        rw [show (rowK (ps.take m) ++ [.int .u64 (x.typ : Int), .int .u64 (x.num : Int), .int .u64 (x.flg : Int), .int .i64 x.crc, .slice Ax nx cx]) ++ [.int .u64 (xm.typ : Int), .int .u64 (xm.num : Int), .int .u64 (xm.flg : Int), .int .i64 xm.crc, .slice Am nm cm] = rowK (ps.take m ++ [PK.mk x Ax nx cx, PK.mk xm Am nm cm]) by rw [rowK_app, List.append_assoc]; rfl] at ho
        have OC2 := Lib.hid ho
        have BN : Hid (Below w3.heap.size w3 wd) := grownOwn BT.out BT.out.size hg (owns_base OC.out)
        clear BT OC ho hg hat hlt RY NY
        have BT := BN
        have OC := OC2
        clear BN OC2
        refine hK.out _ _ (SX.out _ BT.out) (fun hHeld => ?_)
        try simp only [Act.put]
        try simp only [List.setIfInBounds_toArray]
        try simp only [List.set_cons_succ]
        try simp only [List.set_cons_zero]
        clear hK K hHeld
        clear wc
        obtain ⟨wc, rfl⟩ : ∃ wc, wc = wd := ⟨_, rfl⟩
        obtain ⟨g, rfl⟩ : ∃ g, g = g' := ⟨_, rfl⟩
        obtain ⟨cap, rfl⟩ : ∃ cap, cap = cap' := ⟨_, rfl⟩
        have hHeld := SX.out _ BT.out
        refine takeR (i := 18) (v := ?v18_23) rfl (by kernel_rfl) (by kernel_rfl) (by kernel_rfl) (fun _ _ _ h => h) (by rfl) ?hy18_23 (by assumption) ?rest18_23
        case hy18_23 => (intro W hSw; go_simp; try with_reducible rfl)
        try simp only [Act.put]
        try simp only [List.setIfInBounds_toArray]
        try simp only [List.set_cons_succ]
        try simp only [List.set_cons_zero]
        clear hHeld
        refine wpAnyH_ready (rs := [19]) (by kernel_rfl) (by simp) ?_
        refine AllReadyH.cons rfl (fun K hK => ?_) AllReadyH.nil
        have HY4 := Lib.hid ((BT.out.block w2.heap.size (by have := HSZ3.out; omega)).trans HROW3.out)
        have f17 := row_free HY4.out 17
        have y17 := cell_row HY4.out 17 rfl
        rw [if_pos (by rfl)]
        go_simp
        refine hK.out _ _ ((SX.out _ BT.out).setCell (p := ⟨w2.heap.size, 17, none⟩) (Nat.le_refl _) _) (fun hHeld => ?_)
        try simp only [Act.put]
        try simp only [List.setIfInBounds_toArray]
        try simp only [List.set_cons_succ]
        try simp only [List.set_cons_zero]
        clear hK K hHeld f17 y17
        refine wpAnyH_done (by kernel_rfl) ?_ _
        go_wp2_with fail
        go_meet
        case rel => exact ⟨g, cap, wc, rfl, BT.out, OC.out⟩
      refine AllReadyH.cons rfl (fun K hK => ?_) AllReadyH.nil
      rw [if_pos (by rfl)]
      go_simp
      have RY : Hid (RowAt (wc.alloc (.cells #[.int .u64 (xm.typ : Int), .int .u64 (xm.num : Int), .int .u64 (xm.flg : Int), .int .i64 xm.crc, .slice Am nm cm] 48)) wc.heap.size [.int .u64 (xm.typ : Int), .int .u64 (xm.num : Int), .int .u64 (xm.flg : Int), .int .i64 xm.crc, .slice Am nm cm]) := RowAt.made wc #[.int .u64 (xm.typ : Int), .int .u64 (xm.num : Int), .int .u64 (xm.flg : Int), .int .i64 xm.crc, .slice Am nm cm] 48
      have RX2 := Lib.hid (RX.out.alloc (.cells #[.int .u64 (xm.typ : Int), .int .u64 (xm.num : Int), .int .u64 (xm.flg : Int), .int .i64 xm.crc, .slice Am nm cm] 48))
      clear RX
      have RX := RX2
      clear RX2
      have BN : Hid (Below w3.heap.size w3 (wc.alloc (.cells #[.int .u64 (xm.typ : Int), .int .u64 (xm.num : Int), .int .u64 (xm.flg : Int), .int .i64 xm.crc, .slice Am nm cm] 48))) := BT.out.alloc BT.out.size _
      clear BT
      have BT := BN
      clear BN
      refine hK.out _ _ (SX.out _ BT.out) (fun hHeld => ?_)
      try simp only [Act.put]
      try simp only [List.setIfInBounds_toArray]
      try simp only [List.set_cons_succ]
      try simp only [List.set_cons_zero]
      clear hK K hHeld
      generalize wc.alloc (.cells #[.int .u64 (xm.typ : Int), .int .u64 (xm.num : Int), .int .u64 (xm.flg : Int), .int .i64 xm.crc, .slice Am nm cm] 48) = wd at *
      generalize wc.heap.size = gy at *
      clear wc
      obtain ⟨wc, rfl⟩ : ∃ wc, wc = wd := ⟨_, rfl⟩
      refine wpAnyH_ready (rs := [0]) (by kernel_rfl) (by simp) ?_
      refine AllReadyH.cons rfl (fun K hK => ?_) AllReadyH.nil
      rw [if_pos (by rfl)]
      go_simp
      have OC : Hid ((wc.alloc (.cells #[] 48)).ownsRow w3.heap.size 48 5 (.slice (some ⟨wc.heap.size, 0, none⟩) 0 0) 0 []) := World.ownsRow_lit (base := w3.heap.size) (e := 48) (size := 5) wc #[] 0 BT.out.size (by decide) rfl
      have NX : Hid (gx ≠ wc.heap.size) := by show _ ≠ _; have := RX.out.1; omega
      have RX2 := Lib.hid (RX.out.alloc (.cells #[] 48))
      clear RX
      have RX := RX2
      clear RX2
      have NY : Hid (gy ≠ wc.heap.size) := by show _ ≠ _; have := RY.out.1; omega
      have RY2 := Lib.hid (RY.out.alloc (.cells #[] 48))
      clear RY
      have RY := RY2
      clear RY2
      have BN : Hid (Below w3.heap.size w3 (wc.alloc (.cells #[] 48))) := BT.out.alloc BT.out.size _
      clear BT
      have BT := BN
      clear BN
      refine hK.out _ _ (SX.out _ BT.out) (fun hHeld => ?_)
      try simp only [Act.put]
      try simp only [List.setIfInBounds_toArray]
      try simp only [List.set_cons_succ]
      try simp only [List.set_cons_zero]
      clear hK K hHeld
      generalize wc.alloc (.cells #[] 48) = wd at *
      generalize wc.heap.size = g at *
      clear wc
      obtain ⟨wc, rfl⟩ : ∃ wc, wc = wd := ⟨_, rfl⟩
      refine wpAnyH_ready (rs := [6]) (by kernel_rfl) (by simp) ?_
      refine AllReadyH.cons rfl (fun K hK => ?_) AllReadyH.nil
      refine step_append_z (by rfl) (.tmp 19) (.tmp 24) 71 (by rfl) w3.heap.size 48 i0 _ 5 56 Tryz.underlying71 HI.out HZ0.out HZ1.out HZ2.out rfl (by decide) g 0 0 [] (by rfl) OC.out ⟨b, o, none⟩ m c (rowK (ps.take m)) (by rfl) HLO.out (HOL.out _ BT.out) (rowK_one _) (by have := HM.out; unfold maxLen; omega) (by have := HM.out; omega) BT.out.size ?_
      intro g' cap' wd ho hg hat hlt
      rw [Nat.zero_add, List.nil_append] at ho; rw [Nat.zero_add]
      have OC2 := Lib.hid ho
      have BN : Hid (Below w3.heap.size w3 wd) := grownOwn BT.out BT.out.size hg (owns_base OC.out)
      have NX2 : Hid (gx ≠ g') := ne_grown NX.out RX.out.1 hat
      have RX2 := Lib.hid (RX.out.grown hg NX.out)
      clear RX NX
      have RX := RX2
      have NX := NX2
      clear RX2 NX2
      have NY2 : Hid (gy ≠ g') := ne_grown NY.out RY.out.1 hat
      have RY2 := Lib.hid (RY.out.grown hg NY.out)
      clear RY NY
      have RY := RY2
      have NY := NY2
      clear RY2 NY2
      clear BT OC ho hg hat hlt
      have BT := BN
      have OC := OC2
      clear BN OC2
      refine hK.out _ _ (SX.out _ BT.out) (fun hHeld => ?_)
      try simp only [Act.put]
      try simp only [List.setIfInBounds_toArray]
      try simp only [List.set_cons_succ]
      try simp only [List.set_cons_zero]
      clear hK K hHeld
      clear wc
      obtain ⟨wc, rfl⟩ : ∃ wc, wc = wd := ⟨_, rfl⟩
      obtain ⟨g, rfl⟩ : ∃ g, g = g' := ⟨_, rfl⟩
      obtain ⟨cap, rfl⟩ : ∃ cap, cap = cap' := ⟨_, rfl⟩
      refine wpAnyH_ready (rs := [9]) (by kernel_rfl) (by simp) ?_
      refine AllReadyH.cons rfl (fun K hK => ?_) AllReadyH.nil
      refine step_append_z (by rfl) (.tmp 25) (.tmp 27) 71 (by rfl) w3.heap.size 48 i0 _ 5 56 Tryz.underlying71 HI.out HZ0.out HZ1.out HZ2.out rfl (by decide) g cap m (rowK (ps.take m)) (by rfl) OC.out ⟨gx, 0, none⟩ 1 1 [.int .u64 (x.typ : Int), .int .u64 (x.num : Int), .int .u64 (x.flg : Int), .int .i64 x.crc, .slice Ax nx cx] (by rfl) rfl RX.out.2 (rowK_one [PK.mk x Ax nx cx]) (by have := HM.out; unfold maxLen; omega) (by have := HM.out; omega) BT.out.size ?_
      intro g' cap' wd ho hg hat hlt
      have OC2 := Lib.hid ho
      have BN : Hid (Below w3.heap.size w3 wd) := grownOwn BT.out BT.out.size hg (owns_base OC.out)
      have NY2 : Hid (gy ≠ g') := ne_grown NY.out RY.out.1 hat
      have RY2 := Lib.hid (RY.out.grown hg NY.out)
      clear RY NY
      have RY := RY2
      have NY := NY2
      clear RY2 NY2
      clear BT OC ho hg hat hlt RX NX
      have BT := BN
      have OC := OC2
      clear BN OC2
      refine hK.out _ _ (SX.out _ BT.out) (fun hHeld => ?_)
      try simp only [Act.put]
      try simp only [List.setIfInBounds_toArray]
      try simp only [List.set_cons_succ]
      try simp only [List.set_cons_zero]
      clear hK K hHeld
      clear wc
      obtain ⟨wc, rfl⟩ : ∃ wc, wc = wd := ⟨_, rfl⟩
      obtain ⟨g, rfl⟩ : ∃ g, g = g' := ⟨_, rfl⟩
      obtain ⟨cap, rfl⟩ : ∃ cap, cap = cap' := ⟨_, rfl⟩
      refine wpAnyH_ready (rs := [17]) (by kernel_rfl) (by simp) ?_
      refine AllReadyH.cons rfl (fun K hK => ?_) AllReadyH.nil
      refine step_append_z (by rfl) (.tmp 28) (.tmp 35) 71 (by rfl) w3.heap.size 48 i0 _ 5 56 Tryz.underlying71 HI.out HZ0.out HZ1.out HZ2.out rfl (by decide) g cap (m + 1) (rowK (ps.take m) ++ [.int .u64 (x.typ : Int), .int .u64 (x.num : Int), .int .u64 (x.flg : Int), .int .i64 x.crc, .slice Ax nx cx]) (by rfl) OC.out ⟨gy, 0, none⟩ 1 1 [.int .u64 (xm.typ : Int), .int .u64 (xm.num : Int), .int .u64 (xm.flg : Int), .int .i64 xm.crc, .slice Am nm cm] (by rfl) rfl RY.out.2 (rowK_one [PK.mk xm Am nm cm]) (by have := HM.out; unfold maxLen; omega) (by have := HM.out; omega) BT.out.size ?_
      intro g' cap' wd ho hg hat hlt
      rw [show (rowK (ps.take m) ++ [.int .u64 (x.typ : Int), .int .u64 (x.num : Int), .int .u64 (x.flg : Int), .int .i64 x.crc, .slice Ax nx cx]) ++ [.int .u64 (xm.typ : Int), .int .u64 (xm.num : Int), .int .u64 (xm.flg : Int), .int .i64 xm.crc, .slice Am nm cm] = rowK (ps.take m ++ [PK.mk x Ax nx cx, PK.mk xm Am nm cm]) by rw [rowK_app, List.append_assoc]; rfl] at ho
      have OC2 := Lib.hid ho
      have BN : Hid (Below w3.heap.size w3 wd) := grownOwn BT.out BT.out.size hg (owns_base OC.out)
      clear BT OC ho hg hat hlt RY NY
      have BT := BN
      have OC := OC2
      clear BN OC2
      refine hK.out _ _ (SX.out _ BT.out) (fun hHeld => ?_)
      try simp only [Act.put]
      try simp only [List.setIfInBounds_toArray]
      try simp only [List.set_cons_succ]
      try simp only [List.set_cons_zero]
      clear hK K hHeld
      clear wc
      obtain ⟨wc, rfl⟩ : ∃ wc, wc = wd := ⟨_, rfl⟩
      obtain ⟨g, rfl⟩ : ∃ g, g = g' := ⟨_, rfl⟩
      obtain ⟨cap, rfl⟩ : ∃ cap, cap = cap' := ⟨_, rfl⟩
      have hHeld := SX.out _ BT.out
      refine takeR (i := 18) (v := ?v18_24) rfl (by kernel_rfl) (by kernel_rfl) (by kernel_rfl) (fun _ _ _ h => h) (by rfl) ?hy18_24 (by assumption) ?rest18_24
      case hy18_24 => (intro W hSw; go_simp; try with_reducible rfl)
      try simp only [Act.put]
      try simp only [List.setIfInBounds_toArray]
      try simp only [List.set_cons_succ]
      try simp only [List.set_cons_zero]
      clear hHeld
      refine wpAnyH_ready (rs := [19]) (by kernel_rfl) (by simp) ?_
      refine AllReadyH.cons rfl (fun K hK => ?_) AllReadyH.nil
      have HY4 := Lib.hid ((BT.out.block w2.heap.size (by have := HSZ3.out; omega)).trans HROW3.out)
      have f17 := row_free HY4.out 17
      have y17 := cell_row HY4.out 17 rfl
      rw [if_pos (by rfl)]
      go_simp
      refine hK.out _ _ ((SX.out _ BT.out).setCell (p := ⟨w2.heap.size, 17, none⟩) (Nat.le_refl _) _) (fun hHeld => ?_)
      try simp only [Act.put]
      try simp only [List.setIfInBounds_toArray]
      try simp only [List.set_cons_succ]
      try simp only [List.set_cons_zero]
      clear hK K hHeld f17 y17
      refine wpAnyH_done (by kernel_rfl) ?_ _
      go_wp2_with fail
      go_meet
      case rel => exact ⟨g, cap, wc, rfl, BT.out, OC.out⟩
    refine AllReadyH.cons rfl (fun K hK => ?_) AllReadyH.nil
    rw [if_pos (by rfl)]
    go_simp
    have RY : Hid (RowAt (wc.alloc (.cells #[.int .u64 (xm.typ : Int), .int .u64 (xm.num : Int), .int .u64 (xm.flg : Int), .int .i64 xm.crc, .slice Am nm cm] 48)) wc.heap.size [.int .u64 (xm.typ : Int), .int .u64 (xm.num : Int), .int .u64 (xm.flg : Int), .int .i64 xm.crc, .slice Am nm cm]) := RowAt.made wc #[.int .u64 (xm.typ : Int), .int .u64 (xm.num : Int), .int .u64 (xm.flg : Int), .int .i64 xm.crc, .slice Am nm cm] 48
    have BN : Hid (Below w3.heap.size w3 (wc.alloc (.cells #[.int .u64 (xm.typ : Int), .int .u64 (xm.num : Int), .int .u64 (xm.flg : Int), .int .i64 xm.crc, .slice Am nm cm] 48))) := BT.out.alloc BT.out.size _
    clear BT
    have BT := BN
    clear BN
    refine hK.out _ _ (SX.out _ BT.out) (fun hHeld => ?_)
    try simp only [Act.put]
    try simp only [List.setIfInBounds_toArray]
    try simp only [List.set_cons_succ]
    try simp only [List.set_cons_zero]
    clear hK K hHeld
    generalize wc.alloc (.cells #[.int .u64 (xm.typ : Int), .int .u64 (xm.num : Int), .int .u64 (xm.flg : Int), .int .i64 xm.crc, .slice Am nm cm] 48) = wd at *
    generalize wc.heap.size = gy at *
    clear wc
    obtain ⟨wc, rfl⟩ : ∃ wc, wc = wd := ⟨_, rfl⟩
    refine wpAnyH_ready (rs := [0, 8]) (by kernel_rfl) (by simp) ?_
    refine AllReadyH.cons rfl (fun K hK => ?_) ?_
    · skip
      rw [if_pos (by rfl)]
      go_simp
      have OC : Hid ((wc.alloc (.cells #[] 48)).ownsRow w3.heap.size 48 5 (.slice (some ⟨wc.heap.size, 0, none⟩) 0 0) 0 []) := World.ownsRow_lit (base := w3.heap.size) (e := 48) (size := 5) wc #[] 0 BT.out.size (by decide) rfl
      have NY : Hid (gy ≠ wc.heap.size) := by show _ ≠ _; have := RY.out.1; omega
      have RY2 := Lib.hid (RY.out.alloc (.cells #[] 48))
      clear RY
      have RY := RY2
      clear RY2
      have BN : Hid (Below w3.heap.size w3 (wc.alloc (.cells #[] 48))) := BT.out.alloc BT.out.size _
      clear BT
      have BT := BN
      clear BN
      refine hK.out _ _ (SX.out _ BT.out) (fun hHeld => ?_)
      try simp only [Act.put]
      try simp only [List.setIfInBounds_toArray]
      try simp only [List.set_cons_succ]
      try simp only [List.set_cons_zero]
      clear hK K hHeld
      generalize wc.alloc (.cells #[] 48) = wd at *
      generalize wc.heap.size = g at *
      clear wc
      obtain ⟨wc, rfl⟩ : ∃ wc, wc = wd := ⟨_, rfl⟩
      refine wpAnyH_ready (rs := [6, 8]) (by kernel_rfl) (by simp) ?_
      refine AllReadyH.cons rfl (fun K hK => ?_) ?_
      · skip
        refine step_append_z (by rfl) (.tmp 19) (.tmp 24) 71 (by rfl) w3.heap.size 48 i0 _ 5 56 Tryz.underlying71 HI.out HZ0.out HZ1.out HZ2.out rfl (by decide) g 0 0 [] (by rfl) OC.out ⟨b, o, none⟩ m c (rowK (ps.take m)) (by rfl) HLO.out (HOL.out _ BT.out) (rowK_one _) (by have := HM.out; unfold maxLen; omega) (by have := HM.out; omega) BT.out.size ?_
        intro g' cap' wd ho hg hat hlt
        rw [Nat.zero_add, List.nil_append] at ho; rw [Nat.zero_add]
        have OC2 := Lib.hid ho
        have BN : Hid (Below w3.heap.size w3 wd) := grownOwn BT.out BT.out.size hg (owns_base OC.out)
        have NY2 : Hid (gy ≠ g') := ne_grown NY.out RY.out.1 hat
        have RY2 := Lib.hid (RY.out.grown hg NY.out)
        clear RY NY
        have RY := RY2
        have NY := NY2
        clear RY2 NY2
        clear BT OC ho hg hat hlt
        have BT := BN
        have OC := OC2
        clear BN OC2
        refine hK.out _ _ (SX.out _ BT.out) (fun hHeld => ?_)
        try simp only [Act.put]
        try simp only [List.setIfInBounds_toArray]
        try simp only [List.set_cons_succ]
        try simp only [List.set_cons_zero]
        clear hK K hHeld
        clear wc
        obtain ⟨wc, rfl⟩ : ∃ wc, wc = wd := ⟨_, rfl⟩
        obtain ⟨g, rfl⟩ : ∃ g, g = g' := ⟨_, rfl⟩
        obtain ⟨cap, rfl⟩ : ∃ cap, cap = cap' := ⟨_, rfl⟩
        refine wpAnyH_ready (rs := [8]) (by kernel_rfl) (by simp) ?_
        refine AllReadyH.cons rfl (fun K hK => ?_) AllReadyH.nil
        rw [if_pos (by rfl)]
        go_simp
        have RX : Hid (RowAt (wc.alloc (.cells #[.int .u64 (x.typ : Int), .int .u64 (x.num : Int), .int .u64 (x.flg : Int), .int .i64 x.crc, .slice Ax nx cx] 48)) wc.heap.size [.int .u64 (x.typ : Int), .int .u64 (x.num : Int), .int .u64 (x.flg : Int), .int .i64 x.crc, .slice Ax nx cx]) := RowAt.made wc #[.int .u64 (x.typ : Int), .int .u64 (x.num : Int), .int .u64 (x.flg : Int), .int .i64 x.crc, .slice Ax nx cx] 48
        have NX : Hid (wc.heap.size ≠ g) := by show _ ≠ _; have := owns_lt OC.out; omega
        have OC2 := Lib.hid (World.ownsRow.alloc OC.out (.cells #[.int .u64 (x.typ : Int), .int .u64 (x.num : Int), .int .u64 (x.flg : Int), .int .i64 x.crc, .slice Ax nx cx] 48))
        clear OC
        have OC := OC2
        clear OC2
        have RY2 := Lib.hid (RY.out.alloc (.cells #[.int .u64 (x.typ : Int), .int .u64 (x.num : Int), .int .u64 (x.flg : Int), .int .i64 x.crc, .slice Ax nx cx] 48))
        clear RY
        have RY := RY2
        clear RY2
        have BN : Hid (Below w3.heap.size w3 (wc.alloc (.cells #[.int .u64 (x.typ : Int), .int .u64 (x.num : Int), .int .u64 (x.flg : Int), .int .i64 x.crc, .slice Ax nx cx] 48))) := BT.out.alloc BT.out.size _
        clear BT
        have BT := BN
        clear BN
        refine hK.out _ _ (SX.out _ BT.out) (fun hHeld => ?_)
        try simp only [Act.put]
        try simp only [List.setIfInBounds_toArray]
        try simp only [List.set_cons_succ]
        try simp only [List.set_cons_zero]
        clear hK K hHeld
        generalize wc.alloc (.cells #[.int .u64 (x.typ : Int), .int .u64 (x.num : Int), .int .u64 (x.flg : Int), .int .i64 x.crc, .slice Ax nx cx] 48) = wd at *
        generalize wc.heap.size = gx at *
        clear wc
        obtain ⟨wc, rfl⟩ : ∃ wc, wc = wd := ⟨_, rfl⟩
        refine wpAnyH_ready (rs := [9]) (by kernel_rfl) (by simp) ?_
        refine AllReadyH.cons rfl (fun K hK => ?_) AllReadyH.nil
        refine step_append_z (by rfl) (.tmp 25) (.tmp 27) 71 (by rfl) w3.heap.size 48 i0 _ 5 56 Tryz.underlying71 HI.out HZ0.out HZ1.out HZ2.out rfl (by decide) g cap m (rowK (ps.take m)) (by rfl) OC.out ⟨gx, 0, none⟩ 1 1 [.int .u64 (x.typ : Int), .int .u64 (x.num : Int), .int .u64 (x.flg : Int), .int .i64 x.crc, .slice Ax nx cx] (by rfl) rfl RX.out.2 (rowK_one [PK.mk x Ax nx cx]) (by have := HM.out; unfold maxLen; omega) (by have := HM.out; omega) BT.out.size ?_
        intro g' cap' wd ho hg hat hlt
        have OC2 := Lib.hid ho
        have BN : Hid (Below w3.heap.size w3 wd) := grownOwn BT.out BT.out.size hg (owns_base OC.out)
        have NY2 : Hid (gy ≠ g') := ne_grown NY.out RY.out.1 hat
        have RY2 := Lib.hid (RY.out.grown hg NY.out)
        clear RY NY
        have RY := RY2
        have NY := NY2
        clear RY2 NY2
        clear BT OC ho hg hat hlt RX NX
        have BT := BN
        have OC := OC2
        clear BN OC2
        refine hK.out _ _ (SX.out _ BT.out) (fun hHeld => ?_)
        try simp only [Act.put]
        try simp only [List.setIfInBounds_toArray]
        try simp only [List.set_cons_succ]
        try simp only [List.set_cons_zero]
        clear hK K hHeld
        clear wc
        obtain ⟨wc, rfl⟩ : ∃ wc, wc = wd := ⟨_, rfl⟩
        obtain ⟨g, rfl⟩ : ∃ g, g = g' := ⟨_, rfl⟩
        obtain ⟨cap, rfl⟩ : ∃ cap, cap = cap' := ⟨_, rfl⟩
        refine wpAnyH_ready (rs := [17]) (by kernel_rfl) (by simp) ?_
        refine AllReadyH.cons rfl (fun K hK => ?_) AllReadyH.nil
        refine step_append_z (by rfl) (.tmp 28) (.tmp 35) 71 (by rfl) w3.heap.size 48 i0 _ 5 56 Tryz.underlying71 HI.out HZ0.out HZ1.out HZ2.out rfl (by decide) g cap (m + 1) (rowK (ps.take m) ++ [.int .u64 (x.typ : Int), .int .u64 (x.num : Int), .int .u64 (x.flg : Int), .int .i64 x.crc, .slice Ax nx cx]) (by rfl) OC.out ⟨gy, 0, none⟩ 1 1 [.int .u64 (xm.typ : Int), .int .u64 (xm.num : Int), .int .u64 (xm.flg : Int), .int .i64 xm.crc, .slice Am nm cm] (by rfl) rfl RY.out.2 (rowK_one [PK.mk xm Am nm cm]) (by have := HM.out; unfold maxLen; omega) (by have := HM.out; omega) BT.out.size ?_
        intro g' cap' wd ho hg hat hlt
        rw [show (rowK (ps.take m) ++ [.int .u64 (x.typ : Int), .int .u64 (x.num : Int), .int .u64 (x.flg : Int), .int .i64 x.crc, .slice Ax nx cx]) ++ [.int .u64 (xm.typ : Int), .int .u64 (xm.num : Int), .int .u64 (xm.flg : Int), .int .i64 xm.crc, .slice Am nm cm] = rowK (ps.take m ++ [PK.mk x Ax nx cx, PK.mk xm Am nm cm]) by rw [rowK_app, List.append_assoc]; rfl] at ho
        have OC2 := Lib.hid ho
        have BN : Hid (Below w3.heap.size w3 wd) := grownOwn BT.out BT.out.size hg (owns_base OC.out)
        clear BT OC ho hg hat hlt RY NY
        have BT := BN
        have OC := OC2
        clear BN OC2
        refine hK.out _ _ (SX.out _ BT.out) (fun hHeld => ?_)
        try simp only [Act.put]
        try simp only [List.setIfInBounds_toArray]
        try simp only [List.set_cons_succ]
        try simp only [List.set_cons_zero]
        clear hK K hHeld
        clear wc
        obtain ⟨wc, rfl⟩ : ∃ wc, wc = wd := ⟨_, rfl⟩
        obtain ⟨g, rfl⟩ : ∃ g, g = g' := ⟨_, rfl⟩
        obtain ⟨cap, rfl⟩ : ∃ cap, cap = cap' := ⟨_, rfl⟩
        have hHeld := SX.out _ BT.out
        refine takeR (i := 18) (v := ?v18_25) rfl (by kernel_rfl) (by kernel_rfl) (by kernel_rfl) (fun _ _ _ h => h) (by rfl) ?hy18_25 (by assumption) ?rest18_25
        case hy18_25 => (intro W hSw; go_simp; try with_reducible rfl)
        try simp only [Act.put]
        try simp only [List.setIfInBounds_toArray]
        try simp only [List.set_cons_succ]
        try simp only [List.set_cons_zero]
        clear hHeld
        refine wpAnyH_ready (rs := [19]) (by kernel_rfl) (by simp) ?_
        refine AllReadyH.cons rfl (fun K hK => ?_) AllReadyH.nil
        have HY4 := Lib.hid ((BT.out.block w2.heap.size (by have := HSZ3.out; omega)).trans HROW3.out)
        have f17 := row_free HY4.out 17
        have y17 := cell_row HY4.out 17 rfl
        rw [if_pos (by rfl)]
        go_simp
        refine hK.out _ _ ((SX.out _ BT.out).setCell (p := ⟨w2.heap.size, 17, none⟩) (Nat.le_refl _) _) (fun hHeld => ?_)
        try simp only [Act.put]
        try simp only [List.setIfInBounds_toArray]
        try simp only [List.set_cons_succ]
        try simp only [List.set_cons_zero]
        clear hK K hHeld f17 y17
        refine wpAnyH_done (by kernel_rfl) ?_ _
        go_wp2_with fail
        go_meet
        case rel => exact ⟨g, cap, wc, rfl, BT.out, OC.out⟩
      refine AllReadyH.cons rfl (fun K hK => ?_) AllReadyH.nil
      rw [if_pos (by rfl)]
      go_simp
      have RX : Hid (RowAt (wc.alloc (.cells #[.int .u64 (x.typ : Int), .int .u64 (x.num : Int), .int .u64 (x.flg : Int), .int .i64 x.crc, .slice Ax nx cx] 48)) wc.heap.size [.int .u64 (x.typ : Int), .int .u64 (x.num : Int), .int .u64 (x.flg : Int), .int .i64 x.crc, .slice Ax nx cx]) := RowAt.made wc #[.int .u64 (x.typ : Int), .int .u64 (x.num : Int), .int .u64 (x.flg : Int), .int .i64 x.crc, .slice Ax nx cx] 48
      have NX : Hid (wc.heap.size ≠ g) := by show _ ≠ _; have := owns_lt OC.out; omega
      have OC2 := Lib.hid (World.ownsRow.alloc OC.out (.cells #[.int .u64 (x.typ : Int), .int .u64 (x.num : Int), .int .u64 (x.flg : Int), .int .i64 x.crc, .slice Ax nx cx] 48))
      clear OC
      have OC := OC2
      clear OC2
      have RY2 := Lib.hid (RY.out.alloc (.cells #[.int .u64 (x.typ : Int), .int .u64 (x.num : Int), .int .u64 (x.flg : Int), .int .i64 x.crc, .slice Ax nx cx] 48))
      clear RY
      have RY := RY2
      clear RY2
      have BN : Hid (Below w3.heap.size w3 (wc.alloc (.cells #[.int .u64 (x.typ : Int), .int .u64 (x.num : Int), .int .u64 (x.flg : Int), .int .i64 x.crc, .slice Ax nx cx] 48))) := BT.out.alloc BT.out.size _
      clear BT
      have BT := BN
      clear BN
      refine hK.out _ _ (SX.out _ BT.out) (fun hHeld => ?_)
      try simp only [Act.put]
      try simp only [List.setIfInBounds_toArray]
      try simp only [List.set_cons_succ]
      try simp only [List.set_cons_zero]
      clear hK K hHeld
      generalize wc.alloc (.cells #[.int .u64 (x.typ : Int), .int .u64 (x.num : Int), .int .u64 (x.flg : Int), .int .i64 x.crc, .slice Ax nx cx] 48) = wd at *
      generalize wc.heap.size = gx at *
      clear wc
      obtain ⟨wc, rfl⟩ : ∃ wc, wc = wd := ⟨_, rfl⟩
      refine wpAnyH_ready (rs := [6]) (by kernel_rfl) (by simp) ?_
      refine AllReadyH.cons rfl (fun K hK => ?_) AllReadyH.nil
      refine step_append_z (by rfl) (.tmp 19) (.tmp 24) 71 (by rfl) w3.heap.size 48 i0 _ 5 56 Tryz.underlying71 HI.out HZ0.out HZ1.out HZ2.out rfl (by decide) g 0 0 [] (by rfl) OC.out ⟨b, o, none⟩ m c (rowK (ps.take m)) (by rfl) HLO.out (HOL.out _ BT.out) (rowK_one _) (by have := HM.out; unfold maxLen; omega) (by have := HM.out; omega) BT.out.size ?_
      intro g' cap' wd ho hg hat hlt
      rw [Nat.zero_add, List.nil_append] at ho; rw [Nat.zero_add]
      have OC2 := Lib.hid ho
      have BN : Hid (Below w3.heap.size w3 wd) := grownOwn BT.out BT.out.size hg (owns_base OC.out)
      have NX2 : Hid (gx ≠ g') := ne_grown NX.out RX.out.1 hat
      have RX2 := Lib.hid (RX.out.grown hg NX.out)
      clear RX NX
      have RX := RX2
      have NX := NX2
      clear RX2 NX2
      have NY2 : Hid (gy ≠ g') := ne_grown NY.out RY.out.1 hat
      have RY2 := Lib.hid (RY.out.grown hg NY.out)
      clear RY NY
      have RY := RY2
      have NY := NY2
      clear RY2 NY2
      clear BT OC ho hg hat hlt
      have BT := BN
      have OC := OC2
      clear BN OC2
      refine hK.out _ _ (SX.out _ BT.out) (fun hHeld => ?_)
      try simp only [Act.put]
      try simp only [List.setIfInBounds_toArray]
      try simp only [List.set_cons_succ]
      try simp only [List.set_cons_zero]
      clear hK K hHeld
      clear wc
      obtain ⟨wc, rfl⟩ : ∃ wc, wc = wd := ⟨_, rfl⟩
      obtain ⟨g, rfl⟩ : ∃ g, g = g' := ⟨_, rfl⟩
      obtain ⟨cap, rfl⟩ : ∃ cap, cap = cap' := ⟨_, rfl⟩
      refine wpAnyH_ready (rs := [9]) (by kernel_rfl) (by simp) ?_
      refine AllReadyH.cons rfl (fun K hK => ?_) AllReadyH.nil
      refine step_append_z (by rfl) (.tmp 25) (.tmp 27) 71 (by rfl) w3.heap.size 48 i0 _ 5 56 Tryz.underlying71 HI.out HZ0.out HZ1.out HZ2.out rfl (by decide) g cap m (rowK (ps.take m)) (by rfl) OC.out ⟨gx, 0, none⟩ 1 1 [.int .u64 (x.typ : Int), .int .u64 (x.num : Int), .int .u64 (x.flg : Int), .int .i64 x.crc, .slice Ax nx cx] (by rfl) rfl RX.out.2 (rowK_one [PK.mk x Ax nx cx]) (by have := HM.out; unfold maxLen; omega) (by have := HM.out; omega) BT.out.size ?_
      intro g' cap' wd ho hg hat hlt
      have OC2 := Lib.hid ho
      have BN : Hid (Below w3.heap.size w3 wd) := grownOwn BT.out BT.out.size hg (owns_base OC.out)
      have NY2 : Hid (gy ≠ g') := ne_grown NY.out RY.out.1 hat
      have RY2 := Lib.hid (RY.out.grown hg NY.out)
      clear RY NY
      have RY := RY2
      have NY := NY2
      clear RY2 NY2
      clear BT OC ho hg hat hlt RX NX
      have BT := BN
      have OC := OC2
      clear BN OC2
      refine hK.out _ _ (SX.out _ BT.out) (fun hHeld => ?_)
      try simp only [Act.put]
      try simp only [List.setIfInBounds_toArray]
      try simp only [List.set_cons_succ]
      try simp only [List.set_cons_zero]
      clear hK K hHeld
      clear wc
      obtain ⟨wc, rfl⟩ : ∃ wc, wc = wd := ⟨_, rfl⟩
      obtain ⟨g, rfl⟩ : ∃ g, g = g' := ⟨_, rfl⟩
      obtain ⟨cap, rfl⟩ : ∃ cap, cap = cap' := ⟨_, rfl⟩
      refine wpAnyH_ready (rs := [17]) (by kernel_rfl) (by simp) ?_
      refine AllReadyH.cons rfl (fun K hK => ?_) AllReadyH.nil
      refine step_append_z (by rfl) (.tmp 28) (.tmp 35) 71 (by rfl) w3.heap.size 48 i0 _ 5 56 Tryz.underlying71 HI.out HZ0.out HZ1.out HZ2.out rfl (by decide) g cap (m + 1) (rowK (ps.take m) ++ [.int .u64 (x.typ : Int), .int .u64 (x.num : Int), .int .u64 (x.flg : Int), .int .i64 x.crc, .slice Ax nx cx]) (by rfl) OC.out ⟨gy, 0, none⟩ 1 1 [.int .u64 (xm.typ : Int), .int .u64 (xm.num : Int), .int .u64 (xm.flg : Int), .int .i64 xm.crc, .slice Am nm cm] (by rfl) rfl RY.out.2 (rowK_one [PK.mk xm Am nm cm]) (by have := HM.out; unfold maxLen; omega) (by have := HM.out; omega) BT.out.size ?_
      intro g' cap' wd ho hg hat hlt
      rw [show (rowK (ps.take m) ++ [.int .u64 (x.typ : Int), .int .u64 (x.num : Int), .int .u64 (x.flg : Int), .int .i64 x.crc, .slice Ax nx cx]) ++ [.int .u64 (xm.typ : Int), .int .u64 (xm.num : Int), .int .u64 (xm.flg : Int), .int .i64 xm.crc, .slice Am nm cm] = rowK (ps.take m ++ [PK.mk x Ax nx cx, PK.mk xm Am nm cm]) by rw [rowK_app, List.append_assoc]; rfl] at ho
      have OC2 := Lib.hid ho
      have BN : Hid (Below w3.heap.size w3 wd) := grownOwn BT.out BT.out.size hg (owns_base OC.out)
      clear BT OC ho hg hat hlt RY NY
      have BT := BN
      have OC := OC2
      clear BN OC2
      refine hK.out _ _ (SX.out _ BT.out) (fun hHeld => ?_)
      try simp only [Act.put]
      try simp only [List.setIfInBounds_toArray]
      try simp only [List.set_cons_succ]
      try simp only [List.set_cons_zero]
      clear hK K hHeld
      clear wc
      obtain ⟨wc, rfl⟩ : ∃ wc, wc = wd := ⟨_, rfl⟩
      obtain ⟨g, rfl⟩ : ∃ g, g = g' := ⟨_, rfl⟩
      obtain ⟨cap, rfl⟩ : ∃ cap, cap = cap' := ⟨_, rfl⟩
      have hHeld := SX.out _ BT.out
      refine takeR (i := 18) (v := ?v18_26) rfl (by kernel_rfl) (by kernel_rfl) (by kernel_rfl) (fun _ _ _ h => h) (by rfl) ?hy18_26 (by assumption) ?rest18_26
      case hy18_26 => (intro W hSw; go_simp; try with_reducible rfl)
      try simp only [Act.put]
      try simp only [List.setIfInBounds_toArray]
      try simp only [List.set_cons_succ]
      try simp only [List.set_cons_zero]
      clear hHeld
      refine wpAnyH_ready (rs := [19]) (by kernel_rfl) (by simp) ?_
      refine AllReadyH.cons rfl (fun K hK => ?_) AllReadyH.nil
      have HY4 := Lib.hid ((BT.out.block w2.heap.size (by have := HSZ3.out; omega)).trans HROW3.out)
      have f17 := row_free HY4.out 17
      have y17 := cell_row HY4.out 17 rfl
      rw [if_pos (by rfl)]
      go_simp
      refine hK.out _ _ ((SX.out _ BT.out).setCell (p := ⟨w2.heap.size, 17, none⟩) (Nat.le_refl _) _) (fun hHeld => ?_)
      try simp only [Act.put]
      try simp only [List.setIfInBounds_toArray]
      try simp only [List.set_cons_succ]
      try simp only [List.set_cons_zero]
      clear hK K hHeld f17 y17
      refine wpAnyH_done (by kernel_rfl) ?_ _
      go_wp2_with fail
      go_meet
      case rel => exact ⟨g, cap, wc, rfl, BT.out, OC.out⟩
    refine AllReadyH.cons rfl (fun K hK => ?_) AllReadyH.nil
    rw [if_pos (by rfl)]
    go_simp
    have RX : Hid (RowAt (wc.alloc (.cells #[.int .u64 (x.typ : Int), .int .u64 (x.num : Int), .int .u64 (x.flg : Int), .int .i64 x.crc, .slice Ax nx cx] 48)) wc.heap.size [.int .u64 (x.typ : Int), .int .u64 (x.num : Int), .int .u64 (x.flg : Int), .int .i64 x.crc, .slice Ax nx cx]) := RowAt.made wc #[.int .u64 (x.typ : Int), .int .u64 (x.num : Int), .int .u64 (x.flg : Int), .int .i64 x.crc, .slice Ax nx cx] 48
    have RY2 := Lib.hid (RY.out.alloc (.cells #[.int .u64 (x.typ : Int), .int .u64 (x.num : Int), .int .u64 (x.flg : Int), .int .i64 x.crc, .slice Ax nx cx] 48))
    clear RY
    have RY := RY2
    clear RY2
    have BN : Hid (Below w3.heap.size w3 (wc.alloc (.cells #[.int .u64 (x.typ : Int), .int .u64 (x.num : Int), .int .u64 (x.flg : Int), .int .i64 x.crc, .slice Ax nx cx] 48))) := BT.out.alloc BT.out.size _
    clear BT
    have BT := BN
    clear BN
    refine hK.out _ _ (SX.out _ BT.out) (fun hHeld => ?_)
    try simp only [Act.put]
    try simp only [List.setIfInBounds_toArray]
    try simp only [List.set_cons_succ]
    try simp only [List.set_cons_zero]
    clear hK K hHeld
    generalize wc.alloc (.cells #[.int .u64 (x.typ : Int), .int .u64 (x.num : Int), .int .u64 (x.flg : Int), .int .i64 x.crc, .slice Ax nx cx] 48) = wd at *
    generalize wc.heap.size = gx at *
    clear wc
    obtain ⟨wc, rfl⟩ : ∃ wc, wc = wd := ⟨_, rfl⟩
    refine wpAnyH_ready (rs := [0]) (by kernel_rfl) (by simp) ?_
    refine AllReadyH.cons rfl (fun K hK => ?_) AllReadyH.nil
    rw [if_pos (by rfl)]
    go_simp
    have OC : Hid ((wc.alloc (.cells #[] 48)).ownsRow w3.heap.size 48 5 (.slice (some ⟨wc.heap.size, 0, none⟩) 0 0) 0 []) := World.ownsRow_lit (base := w3.heap.size) (e := 48) (size := 5) wc #[] 0 BT.out.size (by decide) rfl
    have NX : Hid (gx ≠ wc.heap.size) := by show _ ≠ _; have := RX.out.1; omega
    have RX2 := Lib.hid (RX.out.alloc (.cells #[] 48))
    clear RX
    have RX := RX2
    clear RX2
    have NY : Hid (gy ≠ wc.heap.size) := by show _ ≠ _; have := RY.out.1; omega
    have RY2 := Lib.hid (RY.out.alloc (.cells #[] 48))
    clear RY
    have RY := RY2
    clear RY2
    have BN : Hid (Below w3.heap.size w3 (wc.alloc (.cells #[] 48))) := BT.out.alloc BT.out.size _
    clear BT
    have BT := BN
    clear BN
    refine hK.out _ _ (SX.out _ BT.out) (fun hHeld => ?_)
    try simp only [Act.put]
    try simp only [List.setIfInBounds_toArray]
    try simp only [List.set_cons_succ]
    try simp only [List.set_cons_zero]
    clear hK K hHeld
    generalize wc.alloc (.cells #[] 48) = wd at *
    generalize wc.heap.size = g at *
    clear wc
    obtain ⟨wc, rfl⟩ : ∃ wc, wc = wd := ⟨_, rfl⟩
    refine wpAnyH_ready (rs := [6]) (by kernel_rfl) (by simp) ?_
    refine AllReadyH.cons rfl (fun K hK => ?_) AllReadyH.nil
    refine step_append_z (by rfl) (.tmp 19) (.tmp 24) 71 (by rfl) w3.heap.size 48 i0 _ 5 56 Tryz.underlying71 HI.out HZ0.out HZ1.out HZ2.out rfl (by decide) g 0 0 [] (by rfl) OC.out ⟨b, o, none⟩ m c (rowK (ps.take m)) (by rfl) HLO.out (HOL.out _ BT.out) (rowK_one _) (by have := HM.out; unfold maxLen; omega) (by have := HM.out; omega) BT.out.size ?_
    intro g' cap' wd ho hg hat hlt
    rw [Nat.zero_add, List.nil_append] at ho; rw [Nat.zero_add]
    have OC2 := Lib.hid ho
    have BN : Hid (Below w3.heap.size w3 wd) := grownOwn BT.out BT.out.size hg (owns_base OC.out)
    have NX2 : Hid (gx ≠ g') := ne_grown NX.out RX.out.1 hat
    have RX2 := Lib.hid (RX.out.grown hg NX.out)
    clear RX NX
    have RX := RX2
    have NX := NX2
    clear RX2 NX2
    have NY2 : Hid (gy ≠ g') := ne_grown NY.out RY.out.1 hat
    have RY2 := Lib.hid (RY.out.grown hg NY.out)
    clear RY NY
    have RY := RY2
    have NY := NY2
    clear RY2 NY2
    clear BT OC ho hg hat hlt
    have BT := BN
    have OC := OC2
    clear BN OC2
    refine hK.out _ _ (SX.out _ BT.out) (fun hHeld => ?_)
    try simp only [Act.put]
    try simp only [List.setIfInBounds_toArray]
    try simp only [List.set_cons_succ]
    try simp only [List.set_cons_zero]
    clear hK K hHeld
    clear wc
    obtain ⟨wc, rfl⟩ : ∃ wc, wc = wd := ⟨_, rfl⟩
    obtain ⟨g, rfl⟩ : ∃ g, g = g' := ⟨_, rfl⟩
    obtain ⟨cap, rfl⟩ : ∃ cap, cap = cap' := ⟨_, rfl⟩
    refine wpAnyH_ready (rs := [9]) (by kernel_rfl) (by simp) ?_
    refine AllReadyH.cons rfl (fun K hK => ?_) AllReadyH.nil
    refine step_append_z (by rfl) (.tmp 25) (.tmp 27) 71 (by rfl) w3.heap.size 48 i0 _ 5 56 Tryz.underlying71 HI.out HZ0.out HZ1.out HZ2.out rfl (by decide) g cap m (rowK (ps.take m)) (by rfl) OC.out ⟨gx, 0, none⟩ 1 1 [.int .u64 (x.typ : Int), .int .u64 (x.num : Int), .int .u64 (x.flg : Int), .int .i64 x.crc, .slice Ax nx cx] (by rfl) rfl RX.out.2 (rowK_one [PK.mk x Ax nx cx]) (by have := HM.out; unfold maxLen; omega) (by have := HM.out; omega) BT.out.size ?_
    intro g' cap' wd ho hg hat hlt
    have OC2 := Lib.hid ho
    have BN : Hid (Below w3.heap.size w3 wd) := grownOwn BT.out BT.out.size hg (owns_base OC.out)
    have NY2 : Hid (gy ≠ g') := ne_grown NY.out RY.out.1 hat
    have RY2 := Lib.hid (RY.out.grown hg NY.out)
    clear RY NY
    have RY := RY2
    have NY := NY2
    clear RY2 NY2
    clear BT OC ho hg hat hlt RX NX
    have BT := BN
    have OC := OC2
    clear BN OC2
    refine hK.out _ _ (SX.out _ BT.out) (fun hHeld => ?_)
    try simp only [Act.put]
    try simp only [List.setIfInBounds_toArray]
    try simp only [List.set_cons_succ]
    try simp only [List.set_cons_zero]
    clear hK K hHeld
    clear wc
    obtain ⟨wc, rfl⟩ : ∃ wc, wc = wd := ⟨_, rfl⟩
    obtain ⟨g, rfl⟩ : ∃ g, g = g' := ⟨_, rfl⟩
    obtain ⟨cap, rfl⟩ : ∃ cap, cap = cap' := ⟨_, rfl⟩
    refine wpAnyH_ready (rs := [17]) (by kernel_rfl) (by simp) ?_
    refine AllReadyH.cons rfl (fun K hK => ?_) AllReadyH.nil
    refine step_append_z (by rfl) (.tmp 28) (.tmp 35) 71 (by rfl) w3.heap.size 48 i0 _ 5 56 Tryz.underlying71 HI.out HZ0.out HZ1.out HZ2.out rfl (by decide) g cap (m + 1) (rowK (ps.take m) ++ [.int .u64 (x.typ : Int), .int .u64 (x.num : Int), .int .u64 (x.flg : Int), .int .i64 x.crc, .slice Ax nx cx]) (by rfl) OC.out ⟨gy, 0, none⟩ 1 1 [.int .u64 (xm.typ : Int), .int .u64 (xm.num : Int), .int .u64 (xm.flg : Int), .int .i64 xm.crc, .slice Am nm cm] (by rfl) rfl RY.out.2 (rowK_one [PK.mk xm Am nm cm]) (by have := HM.out; unfold maxLen; omega) (by have := HM.out; omega) BT.out.size ?_
    intro g' cap' wd ho hg hat hlt
    rw [show (rowK (ps.take m) ++ [.int .u64 (x.typ : Int), .int .u64 (x.num : Int), .int .u64 (x.flg : Int), .int .i64 x.crc, .slice Ax nx cx]) ++ [.int .u64 (xm.typ : Int), .int .u64 (xm.num : Int), .int .u64 (xm.flg : Int), .int .i64 xm.crc, .slice Am nm cm] = rowK (ps.take m ++ [PK.mk x Ax nx cx, PK.mk xm Am nm cm]) by rw [rowK_app, List.append_assoc]; rfl] at ho
    have OC2 := Lib.hid ho
    have BN : Hid (Below w3.heap.size w3 wd) := grownOwn BT.out BT.out.size hg (owns_base OC.out)
    clear BT OC ho hg hat hlt RY NY
    have BT := BN
    have OC := OC2
    clear BN OC2
    refine hK.out _ _ (SX.out _ BT.out) (fun hHeld => ?_)
    try simp only [Act.put]
    try simp only [List.setIfInBounds_toArray]
    try simp only [List.set_cons_succ]
    try simp only [List.set_cons_zero]
    clear hK K hHeld
    clear wc
    obtain ⟨wc, rfl⟩ : ∃ wc, wc = wd := ⟨_, rfl⟩
    obtain ⟨g, rfl⟩ : ∃ g, g = g' := ⟨_, rfl⟩
    obtain ⟨cap, rfl⟩ : ∃ cap, cap = cap' := ⟨_, rfl⟩
    have hHeld := SX.out _ BT.out
    refine takeR (i := 18) (v := ?v18_27) rfl (by kernel_rfl) (by kernel_rfl) (by kernel_rfl) (fun _ _ _ h => h) (by rfl) ?hy18_27 (by assumption) ?rest18_27
    case hy18_27 => (intro W hSw; go_simp; try with_reducible rfl)
    try simp only [Act.put]
    try simp only [List.setIfInBounds_toArray]
    try simp only [List.set_cons_succ]
    try simp only [List.set_cons_zero]
    clear hHeld
    refine wpAnyH_ready (rs := [19]) (by kernel_rfl) (by simp) ?_
    refine AllReadyH.cons rfl (fun K hK => ?_) AllReadyH.nil
    have HY4 := Lib.hid ((BT.out.block w2.heap.size (by have := HSZ3.out; omega)).trans HROW3.out)
    have f17 := row_free HY4.out 17
    have y17 := cell_row HY4.out 17 rfl
    rw [if_pos (by rfl)]
    go_simp
    refine hK.out _ _ ((SX.out _ BT.out).setCell (p := ⟨w2.heap.size, 17, none⟩) (Nat.le_refl _) _) (fun hHeld => ?_)
    try simp only [Act.put]
    try simp only [List.setIfInBounds_toArray]
    try simp only [List.set_cons_succ]
    try simp only [List.set_cons_zero]
    clear hK K hHeld f17 y17
    refine wpAnyH_done (by kernel_rfl) ?_ _
    go_wp2_with fail
    go_meet
    case rel => exact ⟨g, cap, wc, rfl, BT.out, OC.out⟩
  case rest =>
    obtain ⟨g, cap, wd, hwc, hbt, hoc⟩ := hcut.out
    clear hcut
    have BT := Lib.hid hbt
    have OC := Lib.hid hoc
    have HY4 := Lib.hid ((hbt.block w2.heap.size (by have := HSZ3.out; omega)).trans HROW3.out)
    have B4 := Lib.hid (HWW.out _ hbt)
    have BB5 := Lib.hid (B4.out.setCell (p := ⟨w2.heap.size, 17, none⟩) (by have := HSZ2.out; show w.heap.size ≤ w2.heap.size; omega) (.slice (some ⟨g, 0, none⟩) (m + 2) cap))
    have hrow5 := set17 (.slice (some ⟨g, 0, none⟩) (m + 2) cap) HY4.out
    have hz5 : (wd.setCell ⟨w2.heap.size, 17, none⟩ (.slice (some ⟨g, 0, none⟩) (m + 2) cap)).heap[w.heap.size + 2]? = _ := (Below.heap_setCell wd ⟨w2.heap.size, 17, none⟩ (.slice (some ⟨g, 0, none⟩) (m + 2) cap) (w.heap.size + 2) (by have := HSZ2.out; show _ ≠ w2.heap.size; omega)).trans (HX2.out _ (Below.push B3.out (Nat.le_of_eq HS0.out.symm) hbt))
    have hown5 := ownsRow_setCell_below hoc (a := ⟨w2.heap.size, 17, none⟩) (by have := HSZ3.out; show w2.heap.size < _; omega) (.slice (some ⟨g, 0, none⟩) (m + 2) cap)
    have hsz5 : (wd.setCell ⟨w2.heap.size, 17, none⟩ (.slice (some ⟨g, 0, none⟩) (m + 2) cap)).heap.size = wd.heap.size := by simp [World.setCell]
    have HPL : Hid ((ps.take m ++ [PK.mk x Ax nx cx, PK.mk xm Am nm cm]).length = m + 2) := by show _ = _; rw [List.length_append, HTL.out]; rfl
    have hr5 := own_src (B := B) (ps := ps.take m ++ [PK.mk x Ax nx cx, PK.mk xm Am nm cm]) hown5 HPL.out (fun p hp => (HSR.out p hp).below (BB5.out.mono HR.out.2.1)) (Nat.le_trans HR.out.2.1 BB5.out.size) (by have := HM.out; omega)
    rw [HPUT.out] at hr5
    have hc5 : Hid (∀ j u, (rowK (ps.take m ++ [PK.mk x Ax nx cx, PK.mk xm Am nm cm]))[j]? = some u → (wd.setCell ⟨w2.heap.size, 17, none⟩ (.slice (some ⟨g, 0, none⟩) (m + 2) cap)).cell? ⟨g, 0 + j, none⟩ = some u) := fun j u hj => by
      have hjl : j < (m + 2) * 5 := by
        rw [← HPL.out, ← rowK_len]
        rcases Nat.lt_or_ge j (rowK (ps.take m ++ [PK.mk x Ax nx cx, PK.mk xm Am nm cm])).length with h | h
        · exact h
        · rw [List.getElem?_eq_none h] at hj; cases hj
      rw [Nat.zero_add, World.ownsRow.cellAt hown5 j hjl]
      exact hj
    have HG5 : Hid (w3.heap.size ≤ g ∧ g < (wd.setCell ⟨w2.heap.size, 17, none⟩ (.slice (some ⟨g, 0, none⟩) (m + 2) cap)).heap.size ∧ m + 2 ≤ cap) := ⟨owns_base hoc, by rw [hsz5]; exact owns_lt hoc, owns_cap hoc⟩
    have HSZ5 : Hid (w2.heap.size + 1 ≤ (wd.setCell ⟨w2.heap.size, 17, none⟩ (.slice (some ⟨g, 0, none⟩) (m + 2) cap)).heap.size) := by show _ ≤ _; rw [hsz5]; have := hbt.size; have := HSZ3.out; omega
    have C6 := Lib.hid (CK.out g cap _ hr5)
    have HROW5 := Lib.hid hrow5
    have HZ5 := Lib.hid hz5
    rw [← hwc] at BB5 HROW5 HZ5 hc5 HG5 HSZ5 C6
    clear hbt hoc hrow5 hz5 hown5 hsz5 hr5 hwc BT OC HY4 B4
    unfold bunV at *
    go_wp2_with (first
      | (refine wpList_ld18 rfl (.tmp 8) rfl _ rfl _ _ (HROW5.out) rfl ?_)
      | fail)
    refine C6.out.mono ?_
    rintro e w6 ⟨rfl, hb6⟩
    have HROW6 := Lib.hid ((hb6.block w2.heap.size (by have := HSZ5.out; omega)).trans HROW5.out)
    have HZ6 := Lib.hid ((hb6.block (w.heap.size + 2) (by have := HSZ5.out; have := HSZ2.out; omega)).trans HZ5.out)
    have B6 := Lib.hid (BB5.out.trans (hb6.mono BB5.out.size))
    have hc6 : Hid (∀ j u, (rowK (ps.take m ++ [PK.mk x Ax nx cx, PK.mk xm Am nm cm]))[j]? = some u → w6.cell? ⟨g, 0 + j, none⟩ = some u) := fun j u hj => by
      rw [hb6.cell (p := ⟨g, 0 + j, none⟩) HG5.out.2.1]
      exact hc5.out j u hj
    have HG6 : Hid (g < w6.heap.size) := Nat.lt_of_lt_of_le HG5.out.2.1 hb6.size
    clear hb6
    by_cases hq : Z2 = 0
    · subst hq
      go_wp2_with (first
        | (refine wpList_ld18 rfl (.tmp 8) rfl _ rfl _ _ (HROW6.out) rfl ?_)
        | (refine wpList_st18 rfl 73 (.tmp 4) (.tmp 44) rfl _ rfl rfl _ _ (HZ6.out) info_bun rfl rfl ?_; intro W' hrow' _ hoth hbel hsz'; have HWB := Lib.hid (hbel _ _ (B6.out) (Nat.le_add_right _ 2)); clear hbel)
        | fail)
      refine bodyPost_ret (res_bt Tryz.results64 _ _ rfl hrow' rfl) rfl (HG.out _ _ ⟨HWB.out, .inl ⟨(by first | rfl | trivial), (by first | rfl | trivial), _, _, _, rfl, ?_, HG5.out.2.2⟩⟩)
      refine ⟨?_, fun _ => ⟨g, 0, rfl, by rw [hsz']; exact HG6.out, ?_⟩, by have := HM.out; omega⟩
      · rw [← HPUT.out, List.length_map, List.length_append, HTL.out]; rfl
      · rw [← HPUT.out]
        exact rowK_src (B := B) (Nat.le_trans HR.out.2.1 HWB.out.size) _ 0 (fun j u hj => (hoth _ (by have := HG5.out.1; have := HSZ3.out; have := HSZ2.out; show g ≠ _; omega)).trans (hc6.out j u hj)) (fun p hp => (HSR.out p hp).below (HWB.out.mono HR.out.2.1))
    · have q1 : (Z2 != 0) = true := by simp [hq]
      have q2 : (Z2 == 0) = false := by simp [hq]
      have HQ := Lib.hid hq
      clear hq
      go_wp2_with (first
        | (refine wpList_st18 rfl 73 (.tmp 4) (.tmp 42) rfl _ rfl rfl _ _ (HZ6.out) info_bun rfl rfl ?_; intro W' hrow' _ hoth hbel hsz'; have HWB := Lib.hid (hbel _ _ (B6.out) (Nat.le_add_right _ 2)); clear hbel)
        | fail)
      exact bodyPost_ret (res_bt Tryz.results64 _ _ rfl hrow' rfl) rfl (HG.out _ _ ⟨HWB.out, .inr ⟨fun hh => HQ.out hh.2, (show Ending.returned _ = Ending.returned _ by rw [HIF.out]; rfl)⟩⟩)
end Go.Proofs.YtlecbblmaadpiaaGreatDoor
