/- What Decode of layer 5 returns. -/
import Derived.Test.YtanbjifdcplmnaaGreatDoorTBlkH
namespace Go.Proofs.YtanbjifdcplmnaaGreatDoor
open Go.RowKit

/-- What Decode answers. -/
def DecB (l : List UInt8) (w : World) (e : Ending) (w' : World) : Prop := Below w.heap.size w w' ∧
  ∃ (b : Blk) (A : Option Addr) (nd cd : Nat) (N z : Int), e = .returned (.tuple #[blkV b.typ b.num b.flg b.crc A nd cd, .int .i64 N, .int .i64 z]) ∧ decB l = (b, N, z) ∧ Bd b ∧ (nd ≤ cd ∧ nd ≤ 140737488355328) ∧ Rd w' w'.heap.size A nd b.dat

set_option maxRecDepth 100000 in
set_option maxHeartbeats 8000000 in
theorem bdecode_any (A : Option Addr) (n c B : Nat) (l : List UInt8) (w : World) (hB : B ≤ w.heap.size) (h : Rd w B A n l) (hn : n ≤ 140737488355328) (hc : n ≤ c) (hL : LaidE w) :
    Calls Tryz.prog 6 #[.slice A n c] w (DecB l w) := by
  have HB0 := Lib.hid ((Below.refl w.heap.size w).alloc (Nat.le_refl _) (.cells #[.int .u64 0, .int .u64 0, .int .u64 0, .int .i64 0, .slice none 0 0] 25))
  have HLT := Lib.hid hL.lt
  have HL := Lib.hid hL
  have C1 := Lib.hid (bread_any A n c B l (w.alloc (.cells #[.int .u64 0, .int .u64 0, .int .u64 0, .int .i64 0, .slice none 0 0] 25)) (Nat.le_trans hB (le_alloc _ _)) (h.alloc hB _) hn hc (hL.below HB0.out hL.lt))
  have HZ := Lib.hid (fun (W : World) (hb : Below (w.heap.size + 1) (w.alloc (.cells #[.int .u64 0, .int .u64 0, .int .u64 0, .int .i64 0, .slice none 0 0] 25)) W) => zero5 (g := w.heap.size) rfl hb)
  have HZB : Hid (∀ (W : World) (_ : Below (w.heap.size + 1) (w.alloc (.cells #[.int .u64 0, .int .u64 0, .int .u64 0, .int .i64 0, .slice none 0 0] 25)) W), W.heap[w.heap.size]? = some (.cells #[.int .u64 0, .int .u64 0, .int .u64 0, .int .i64 0, .slice none 0 0] 25 (0, 0))) := fun W hb => by
    rw [hb.block w.heap.size (Nat.lt_succ_self _)]; exact heap_alloc_new w _
  have hs0 : (w.alloc (.cells #[.int .u64 0, .int .u64 0, .int .u64 0, .int .i64 0, .slice none 0 0] 25)).heap.size = w.heap.size + 1 := by simp
  clear h hB hn hc hL
  go_enter Tryz.func6, Tryz.ntmps6
  go_wp2_with fail
  refine C1.out.mono ?_
  rintro e w1 ⟨hb1, ⟨b, A1, nd, cd, N, rfl, hd, hbd, hnd, hr⟩ | ⟨z, s, hz, hd, rfl⟩⟩
  · rw [hs0] at hb1
    have hw1 : w.heap.size + 1 ≤ w1.heap.size := by have := hb1.size; rw [hs0] at this; exact this
    have HNE : Hid (¬ w.heap.size = w1.heap.size) := fun h => by omega
    have hb2 := hb1.alloc hw1 (.cells #[.int .u64 (b.typ : Int), .int .u64 (b.num : Int), .int .u64 (b.flg : Int), .int .i64 b.crc, .slice A1 nd cd] 25)
    have hlt1 : w1.heap.size < (w1.alloc (.cells #[.int .u64 (b.typ : Int), .int .u64 (b.num : Int), .int .u64 (b.flg : Int), .int .i64 b.crc, .slice A1 nd cd] 25)).heap.size := by simp
    obtain ⟨g0, g1, g2, g3, g4⟩ := box5 rfl (Below.refl (w1.heap.size + 1) (w1.alloc (.cells #[.int .u64 (b.typ : Int), .int .u64 (b.num : Int), .int .u64 (b.flg : Int), .int .i64 b.crc, .slice A1 nd cd] 25)))
    have gd0 := drew_cell g0
    have gd1 := drew_cell g1
    have gd2 := drew_cell g2
    have gd3 := drew_cell g3
    have gd4 := drew_cell g4
    have B2 := Lib.hid hb2
    have hs2 : (w1.alloc (.cells #[.int .u64 (b.typ : Int), .int .u64 (b.num : Int), .int .u64 (b.flg : Int), .int .i64 b.crc, .slice A1 nd cd] 25)).heap.size = w1.heap.size + 1 := by simp
    have HS2 := Lib.hid hs2
    have HW1 := Lib.hid hw1
    have HD := Lib.hid hd
    have HLL := Lib.hid (HL.out.below (HB0.out.trans (hb2.mono (Nat.le_succ _))) HLT.out)
    have HR1 := Lib.hid (And.intro hbd (And.intro hnd hr))
    have CN : Hid (∀ W, Below (w1.alloc (.cells #[.int .u64 (b.typ : Int), .int .u64 (b.num : Int), .int .u64 (b.flg : Int), .int .i64 b.crc, .slice A1 nd cd] 25)).heap.size (w1.alloc (.cells #[.int .u64 (b.typ : Int), .int .u64 (b.num : Int), .int .u64 (b.flg : Int), .int .i64 b.crc, .slice A1 nd cd] 25)) W → Calls Tryz.prog 24 #[.nilIface] W fun e w' => e = .returned (.int .i64 0) ∧ Below W.heap.size W w') := fun W _ => bnumber_nil W
    have HR2 : Hid (Rd (w1.alloc (.cells #[.int .u64 (b.typ : Int), .int .u64 (b.num : Int), .int .u64 (b.flg : Int), .int .i64 b.crc, .slice A1 nd cd] 25)) w1.heap.size A1 nd b.dat) := hr.alloc (Nat.le_refl _) _
    clear hbd hnd hr
    clear hb1 hb2 hw1 hs2 hd
    unfold blkV at *
    go_wp2_with fail
    generalize (w1.alloc (.cells #[.int .u64 (b.typ : Int), .int .u64 (b.num : Int), .int .u64 (b.flg : Int), .int .i64 b.crc, .slice A1 nd cd] 25)) = W2 at *
    go_region_held3 (fun W => W.cell? ⟨w1.heap.size, 0, none⟩ = some (.int .u64 (b.typ : Int)) ∧ W.cell? ⟨w1.heap.size, 1, none⟩ = some (.int .u64 (b.num : Int)) ∧ W.cell? ⟨w1.heap.size, 2, none⟩ = some (.int .u64 (b.flg : Int)) ∧ W.cell? ⟨w1.heap.size, 3, none⟩ = some (.int .i64 b.crc) ∧ W.cell? ⟨w1.heap.size, 4, none⟩ = some (.slice A1 nd cd))
      (first | (with_reducible exact ⟨put5_cell x30 HNE.out, put5_cell x31 HNE.out, put5_cell x32 HNE.out, put5_cell x33 HNE.out, put5_cell x34 HNE.out⟩) | (with_reducible exact ⟨x30, x31, x32, x33, x34⟩) | (with_reducible exact ⟨gd0, gd1, gd2, gd3, gd4⟩) | fail)
      (first
        | (go_at_call 24; refine (CN.out _ (Below.drew_)).mono ?_; rintro e w3 ⟨rfl, hb3⟩; have hb3' : Below W2.heap.size W2 w3 := Below.drew_.trans hb3; have x30 := (hb3'.cell (p := ⟨w1.heap.size, 0, none⟩) hlt1).trans g0; have x31 := (hb3'.cell (p := ⟨w1.heap.size, 1, none⟩) hlt1).trans g1; have x32 := (hb3'.cell (p := ⟨w1.heap.size, 2, none⟩) hlt1).trans g2; have x33 := (hb3'.cell (p := ⟨w1.heap.size, 3, none⟩) hlt1).trans g3; have x34 := (hb3'.cell (p := ⟨w1.heap.size, 4, none⟩) hlt1).trans g4; have hbE := B2.out.trans (hb3'.mono (by have := HS2.out; have := HW1.out; omega)); obtain ⟨⟨z0, z1, z2, z3, z4⟩, f0, f1, f2, f3, f4⟩ := HZ.out _ hbE; have BE := Lib.hid hbE; have B3 := Lib.hid hb3'; clear hb3 hb3' hbE)
        | fail)
    go_wp2_with fail
    have RE := HR2.out.below (B3.out.mono (by have := HS2.out; omega))
    refine bodyPost_ret (v := .tuple #[blkV b.typ b.num b.flg b.crc A1 nd cd, .int .i64 N, .int .i64 0]) (by simp [results, Tryz.results6, go_sem, z0, z1, z2, z3, z4, blkV]) rfl ⟨below_put5 (HB0.out.trans (BE.out.mono (Nat.le_succ _))) (Nat.le_refl _), b, A1, nd, cd, N, 0, rfl, HD.out, HR1.out.1, HR1.out.2.1, ?_⟩
    exact Rd.put5 RE (by have := B3.out.size; have := HS2.out; simp [World.setCell]; omega) (RE.off5 (HZB.out _ BE.out))
  · rw [hs0] at hb1
    have hw1 : w.heap.size + 1 ≤ w1.heap.size := by have := hb1.size; rw [hs0] at this; exact this
    have HNE : Hid (¬ w.heap.size = w1.heap.size) := fun h => by omega
    have hb2 := hb1.alloc hw1 (.cells #[.int .u64 0, .int .u64 0, .int .u64 0, .int .i64 0, .slice none 0 0] 25)
    have hlt1 : w1.heap.size < (w1.alloc (.cells #[.int .u64 0, .int .u64 0, .int .u64 0, .int .i64 0, .slice none 0 0] 25)).heap.size := by simp
    obtain ⟨g0, g1, g2, g3, g4⟩ := box5 rfl (Below.refl (w1.heap.size + 1) (w1.alloc (.cells #[.int .u64 0, .int .u64 0, .int .u64 0, .int .i64 0, .slice none 0 0] 25)))
    have gd0 := drew_cell g0
    have gd1 := drew_cell g1
    have gd2 := drew_cell g2
    have gd3 := drew_cell g3
    have gd4 := drew_cell g4
    have B2 := Lib.hid hb2
    have hs2 : (w1.alloc (.cells #[.int .u64 0, .int .u64 0, .int .u64 0, .int .i64 0, .slice none 0 0] 25)).heap.size = w1.heap.size + 1 := by simp
    have HS2 := Lib.hid hs2
    have HW1 := Lib.hid hw1
    have HD := Lib.hid hd
    have HLL := Lib.hid (HL.out.below (HB0.out.trans (hb2.mono (Nat.le_succ _))) HLT.out)
    have CN : Hid (∀ W, Below (w1.alloc (.cells #[.int .u64 0, .int .u64 0, .int .u64 0, .int .i64 0, .slice none 0 0] 25)).heap.size (w1.alloc (.cells #[.int .u64 0, .int .u64 0, .int .u64 0, .int .i64 0, .slice none 0 0] 25)) W → Calls Tryz.prog 24 #[bfl z s] W fun e w' => e = .returned (.int .i64 z) ∧ Below W.heap.size W w') := fun W hW => bnumber_any z s W (HLL.out.below hW HLL.out.lt)
    clear hb1 hb2 hw1 hs2 hd
    unfold blkV bfl at *
    go_wp2_with fail
    generalize (w1.alloc (.cells #[.int .u64 0, .int .u64 0, .int .u64 0, .int .i64 0, .slice none 0 0] 25)) = W2 at *
    go_region_held3 (fun W => W.cell? ⟨w1.heap.size, 0, none⟩ = some (.int .u64 0) ∧ W.cell? ⟨w1.heap.size, 1, none⟩ = some (.int .u64 0) ∧ W.cell? ⟨w1.heap.size, 2, none⟩ = some (.int .u64 0) ∧ W.cell? ⟨w1.heap.size, 3, none⟩ = some (.int .i64 0) ∧ W.cell? ⟨w1.heap.size, 4, none⟩ = some (.slice none 0 0))
      (first | (with_reducible exact ⟨put5_cell x30 HNE.out, put5_cell x31 HNE.out, put5_cell x32 HNE.out, put5_cell x33 HNE.out, put5_cell x34 HNE.out⟩) | (with_reducible exact ⟨x30, x31, x32, x33, x34⟩) | (with_reducible exact ⟨gd0, gd1, gd2, gd3, gd4⟩) | fail)
      (first
        | (go_at_call 24; refine (CN.out _ (Below.drew_)).mono ?_; rintro e w3 ⟨rfl, hb3⟩; have hb3' : Below W2.heap.size W2 w3 := Below.drew_.trans hb3; have x30 := (hb3'.cell (p := ⟨w1.heap.size, 0, none⟩) hlt1).trans g0; have x31 := (hb3'.cell (p := ⟨w1.heap.size, 1, none⟩) hlt1).trans g1; have x32 := (hb3'.cell (p := ⟨w1.heap.size, 2, none⟩) hlt1).trans g2; have x33 := (hb3'.cell (p := ⟨w1.heap.size, 3, none⟩) hlt1).trans g3; have x34 := (hb3'.cell (p := ⟨w1.heap.size, 4, none⟩) hlt1).trans g4; have hbE := B2.out.trans (hb3'.mono (by have := HS2.out; have := HW1.out; omega)); obtain ⟨⟨z0, z1, z2, z3, z4⟩, f0, f1, f2, f3, f4⟩ := HZ.out _ hbE; have BE := Lib.hid hbE; have B3 := Lib.hid hb3'; clear hb3 hb3' hbE)
        | fail)
    go_wp2_with fail
    refine bodyPost_ret (v := .tuple #[blkV 0 0 0 0 none 0 0, .int .i64 0, .int .i64 z]) (by simp [results, Tryz.results6, go_sem, z0, z1, z2, z3, z4, blkV]) rfl ⟨below_put5 (HB0.out.trans (BE.out.mono (Nat.le_succ _))) (Nat.le_refl _), Blk.zero, none, 0, 0, 0, z, rfl, HD.out, ⟨by decide, by decide, by decide⟩, ⟨Nat.le_refl _, by decide⟩, Rd.nil_⟩
end Go.Proofs.YtanbjifdcplmnaaGreatDoor
