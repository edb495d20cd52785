/- What read of layer 5 returns. -/
import Derived.Test.YtbdjkihgcmebgaaGreatDoorRBlkF2
import Derived.Test.YtbdjkihgcmebgaaGreatDoorRKDec2
import Derived.Test.YtbdjkihgcmebgaaGreatDoorRRfR
import Derived.Deep.RegionHeld3
namespace Go.Proofs.YtbdjkihgcmebgaaGreatDoor
open Go.RowKit

/-- Bytes don't lie where a block's zeros lie. -/
theorem Rd.off5 {W : World} {g n B : Nat} {t : TypeId} {A : Option Addr} {l : List UInt8} (hW : W.heap[g]? = some (.cells #[.int .u64 0, .int .u64 0, .int .u64 0, .int .i64 0, .slice none 0 0] t)) (h : Rd W B A n l) : 0 < n → ∀ b o, A = some ⟨b, o, none⟩ → ¬ g = b := by
  intro hn b o hA e
  obtain ⟨b', o', e', _, hc⟩ := h.2 hn
  rw [hA] at e'
  cases e'
  subst e
  have h0 := hc 0 hn
  rw [Nat.add_zero] at h0
  unfold World.cell? at h0
  simp only [hW] at h0
  match o, h0 with
  | 0, h => simp at h
  | 1, h => simp at h
  | 2, h => simp at h
  | 3, h => simp at h
  | 4, h => simp at h
  | _ + 5, h => simp at h
theorem Rd.put5 {W : World} {B B' n g : Nat} {A : Option Addr} {l : List UInt8} {u0 u1 u2 u3 u4 : Value} (h : Rd W B A n l) (hB : B ≤ B') (hA : 0 < n → ∀ b o, A = some ⟨b, o, none⟩ → ¬ g = b) :
    Rd (((((W.setCell ⟨g, 0, none⟩ u0).setCell ⟨g, 1, none⟩ u1).setCell ⟨g, 2, none⟩ u2).setCell ⟨g, 3, none⟩ u3).setCell ⟨g, 4, none⟩ u4) B' A n l :=
  ⟨h.1, fun hn => by
    obtain ⟨b, o, e, hb, hc⟩ := h.2 hn
    exact ⟨b, o, e, by omega, fun i hi => put5_cell (hc i hi) (hA hn b o e)⟩⟩

/-- What reading a block answers. -/
def ReadB (l : List UInt8) (w : World) (e : Ending) (w' : World) : Prop := Below w.heap.size w w' ∧
  ((∃ (b : Blk) (A : Option Addr) (nd cd : Nat) (N : Int), e = .returned (.tuple #[blkV b.typ b.num b.flg b.crc A nd cd, .int .i64 N, .nilIface]) ∧ decB l = (b, N, 0) ∧ Bd b ∧ (nd ≤ cd ∧ nd ≤ 140737488355328) ∧ Rd w' w'.heap.size A nd b.dat) ∨
   (∃ (z : Int) (s : ByteArray), z ≠ 0 ∧ decB l = (.zero, 0, z) ∧ e = .returned (.tuple #[blkV 0 0 0 0 none 0 0, .int .i64 0, bfl z s])))

theorem compare_ok (A A' : Option Addr) (n c n' c' s : Nat) (u v : List UInt8) (w : World) (h : Rd w w.heap.size A n u) (hc : n ≤ c) (h' : Rd w w.heap.size A' n' v) (hc' : n' ≤ c') (hs : s ≤ n') (hn : n ≤ 140737488355328) (hn' : n' ≤ 140737488355328) (hz : cmpB u v s = 0) :
    Calls Tryz.prog 25 #[.slice A n c, .slice A' n' c', .int .i64 (s : Int)] w fun e w' => e = .returned .nilIface ∧ Below w.heap.size w w' :=
  (compare_any A A' n c n' c' w.heap.size s u v w h hc h' hc' hs hn hn').mono fun e w' hh => by
    rw [hz] at hh
    rcases hh.2 with ⟨-, h2⟩ | ⟨h2, -⟩
    · exact ⟨h2, hh.1⟩
    · exact absurd rfl h2
theorem compare_no (A A' : Option Addr) (n c n' c' s : Nat) (u v : List UInt8) (w : World) (h : Rd w w.heap.size A n u) (hc : n ≤ c) (h' : Rd w w.heap.size A' n' v) (hc' : n' ≤ c') (hs : s ≤ n') (hn : n ≤ 140737488355328) (hn' : n' ≤ 140737488355328) (hz : cmpB u v s ≠ 0) :
    Calls Tryz.prog 25 #[.slice A n c, .slice A' n' c', .int .i64 (s : Int)] w fun e w' => ∃ q, e = .returned (bfl (cmpB u v s) q) ∧ Below w.heap.size w w' :=
  (compare_any A A' n c n' c' w.heap.size s u v w h hc h' hc' hs hn hn').mono fun e w' hh => by
    rcases hh.2 with ⟨h2, -⟩ | ⟨-, q, h2⟩
    · exact absurd h2 hz
    · exact ⟨q, h2, hh.1⟩
theorem decB_err {l : List UInt8} {z : Int} (h : decode l = (.zero, 0, z)) (hz : z ≠ 0) : decB l = (.zero, 0, z) := by
  unfold decB; rw [h]; rw [if_pos hz]
theorem decB_not {l : List UInt8} {x : Itm} {n : Int} (h : decode l = (x, n, 0)) (hz : blkOk (takenB x) = false) : decB l = (.zero, 0, 50) := by
  unfold decB; rw [h]; rw [if_neg (by simp), if_pos hz]
theorem decB_cmp {l : List UInt8} {x : Itm} {n : Nat} (h : decode l = (x, (n : Int), 0)) (hz : blkOk (takenB x) = true) :
    decB l = if cmpB (l.take n) (blkW (takenB x)) (sumN (takenB x).crc) ≠ 0 then (.zero, 0, cmpB (l.take n) (blkW (takenB x)) (sumN (takenB x).crc)) else (takenB x, (n : Int), 0) := by
  unfold decB; rw [h]; simp only [Int.toNat_natCast]; rw [if_neg (by simp), if_neg (by rw [hz]; decide)]

set_option maxRecDepth 100000 in
set_option maxHeartbeats 8000000 in
theorem bread_any (A : Option Addr) (n c B : Nat) (l : List UInt8) (w : World) (hB : B ≤ w.heap.size) (h : Rd w B A n l) (hn : n ≤ 140737488355328) (hc : n ≤ c) (hL : LaidE w) :
    Calls Tryz.prog 8 #[.slice A n c] w (ReadB l w) := by
  have HB0 := Lib.hid ((Below.refl w.heap.size w).alloc (Nat.le_refl _) (.cells #[.int .u64 0, .int .u64 0, .int .u64 0, .int .i64 0, .slice none 0 0] 25))
  have C1 := Lib.hid (cdecode_any A n c B l (w.alloc (.cells #[.int .u64 0, .int .u64 0, .int .u64 0, .int .i64 0, .slice none 0 0] 25)) (Nat.le_trans hB (le_alloc _ _)) (h.alloc hB _) hn hc (hL.below HB0.out hL.lt))
  have HZ := Lib.hid (fun (W : World) (hb : Below (w.heap.size + 1) (w.alloc (.cells #[.int .u64 0, .int .u64 0, .int .u64 0, .int .i64 0, .slice none 0 0] 25)) W) => zero5 (g := w.heap.size) rfl hb)
  have HZB : Hid (∀ (W : World) (_ : Below (w.heap.size + 1) (w.alloc (.cells #[.int .u64 0, .int .u64 0, .int .u64 0, .int .i64 0, .slice none 0 0] 25)) W), W.heap[w.heap.size]? = some (.cells #[.int .u64 0, .int .u64 0, .int .u64 0, .int .i64 0, .slice none 0 0] 25 (0, 0))) := fun W hb => by
    rw [hb.block w.heap.size (Nat.lt_succ_self _)]; exact heap_alloc_new w _
  have HR := Lib.hid h
  have HH := Lib.hid (And.intro hB (And.intro hn hc))
  have q1 := fun (W : World) (u : TypeId) (x : Value) => run_neq_iface_nil (P := Tryz.prog) (w := W) 35 (by kernel_rfl) u x
  have q2 := fun (W : World) (u : TypeId) (x : Value) => run_eql_iface_nil (P := Tryz.prog) (w := W) 35 (by kernel_rfl) u x
  have hs0 : (w.alloc (.cells #[.int .u64 0, .int .u64 0, .int .u64 0, .int .i64 0, .slice none 0 0] 25)).heap.size = w.heap.size + 1 := by simp
  clear h hB hn hc hL
  rcases decode_cases l with ⟨z, hz, hd⟩ | ⟨x, r, hl, hf, hsz, hd⟩
  · have hzn : z ≠ 0 := by omega
    have hz0 : (z == 0) = false := by simpa using hzn
    have HD := Lib.hid (decB_err hd hzn)
    rw [hd] at C1
    have HZN := Lib.hid hzn
    clear hd hz hzn
    go_enter Tryz.func8, Tryz.ntmps8
    go_wp2_with fail
    refine C1.out.mono ?_
    rintro e w1 ⟨v, rfl, hv, hb⟩
    obtain ⟨k1, n1, A1, nd1, cd1, AL1, nl1, cl1, rfl⟩ := hv.form
    rw [hs0] at hb
    have hb2 : Below (w.heap.size + 1) (w.alloc (.cells #[.int .u64 0, .int .u64 0, .int .u64 0, .int .i64 0, .slice none 0 0] 25)) (w1.alloc (.cells #[.int .i64 k1, .int .u64 (n1 : Int), .slice A1 nd1 cd1, .slice AL1 nl1 cl1] 42)) := hb.alloc (by have := hb.size; rw [hs0] at this; exact this) _
    obtain ⟨⟨z0, z1, z2, z3, z4⟩, f0, f1, f2, f3, f4⟩ := HZ.out _ hb2
    have B2 := Lib.hid hb2
    clear hb hv hb2
    go_wp2_with fail
    refine bodyPost_ret (v := .tuple #[blkV 0 0 0 0 none 0 0, .int .i64 0, bfl z ⟨#[110, 111, 32, 105, 116, 101, 109]⟩]) (by simp [results, Tryz.results8, go_sem, z0, z1, z2, z3, z4, blkV, bfl]) rfl ⟨below_put5 (HB0.out.trans (B2.out.mono (Nat.le_succ _))) (Nat.le_refl _), .inr ⟨z, _, HZN.out, HD.out, rfl⟩⟩
  · obtain ⟨M, hM⟩ : ∃ M, M = (wri x).length := ⟨_, rfl⟩
    rw [← hM] at hd
    have hMn : M ≤ n := by rw [← HR.out.1, hl, List.length_append, hM]; omega
    obtain ⟨D1, d1, k1, hd1, -, r1⟩ := cut_h (P := Tryz.prog) 22 5 Tryz.underlying22 size_u8 c HR.out (M : Int) M rfl hMn HH.out.2.2
    have HD := Lib.hid hd
    have HR1 := Lib.hid (And.intro r1 (And.intro hd1 hMn))
    rw [hd] at C1
    clear hl hf hsz hM hd r1 hd1 hMn
    go_enter Tryz.func8, Tryz.ntmps8
    go_wp2_with fail
    refine C1.out.mono ?_
    rintro e w1 ⟨v, rfl, hv, hb⟩
    obtain ⟨ka, na, Aa, nda, cda, ALa, nla, cla, rfl⟩ := hv.form
    rw [hs0] at hb
    have hw1 : w.heap.size + 1 ≤ w1.heap.size := by have := hb.size; rw [hs0] at this; exact this
    have hb2 := hb.alloc hw1 (.cells #[.int .i64 ka, .int .u64 (na : Int), .slice Aa nda cda, .slice ALa nla cla] 42)
    have C2 := Lib.hid (btaken_any x _ w1.heap.size (w1.alloc (.cells #[.int .i64 ka, .int .u64 (na : Int), .slice Aa nda cda, .slice ALa nla cla] 42)) (le_alloc _ _) (hv.alloc (Nat.le_refl _) _))
    have B2 := Lib.hid hb2
    have HW1 := Lib.hid hw1
    clear hv hb hb2 hw1
    go_wp2_with fail
    refine C2.out.mono ?_
    rintro e w2 ⟨hb, t, nn, f, cc, A2, nd2, cd2, d2, rfl, ht, hbd, hwf, hnd, hr⟩
    have hw2 : w1.heap.size + 1 ≤ w2.heap.size := by have := hb.size; simpa using this
    have hb3 := B2.out.trans (hb.mono (by have := HW1.out; simp; omega))
    have hr2 := (hr.below hb).more (show _ ≤ w2.heap.size from hb.size)
    have hb4 := hb3.alloc (by have := HW1.out; omega) (.cells #[.int .u64 (t : Int), .int .u64 (nn : Int), .int .u64 (f : Int), .int .i64 cc, .slice A2 nd2 cd2] 25)
    have C3 := Lib.hid (bcheck_any t nn f cc A2 nd2 cd2 d2 (w2.alloc (.cells #[.int .u64 (t : Int), .int .u64 (nn : Int), .int .u64 (f : Int), .int .i64 cc, .slice A2 nd2 cd2] 25)) hr.1)
    have B4 := Lib.hid hb4
    have HW2 := Lib.hid hw2
    have HR2 := Lib.hid hr2
    have HT := Lib.hid ht
    have HBD := Lib.hid (And.intro hbd hnd)
    clear hb hb3 hb4 hr hr2 hw2 ht hbd hwf hnd C1 C2
    unfold blkV at *
    go_wp2_with fail
    refine C3.out.mono ?_
    rintro e w3 ⟨hb, ⟨hok, rfl⟩ | ⟨hok, s, rfl⟩⟩
    · have hb5 := B4.out.trans (hb.mono (by have := HW1.out; have := HW2.out; simp; omega))
      have hb6 := hb.mono (show w2.heap.size + 1 ≤ _ by simp)
      obtain ⟨g0, g1, g2, g3, g4⟩ := box5 rfl hb6
      have hlt3 : w2.heap.size < w3.heap.size := by have := hb6.size; simp at this; omega
      have hw3 : w.heap.size + 1 ≤ w3.heap.size := by have := HW1.out; have := HW2.out; omega
      have HW3 := Lib.hid hw3
      have B5 := Lib.hid hb5
      have hr3 : Rd w3 w3.heap.size A2 nd2 d2 := ((HR2.out.alloc (Nat.le_refl _) _).below (hb.mono (by simp))).more (Nat.le_of_lt hlt3)
      have HR3 := Lib.hid hr3
      have gd0 := drew_cell g0
      have gd1 := drew_cell g1
      have gd2 := drew_cell g2
      have gd3 := drew_cell g3
      have gd4 := drew_cell g4
      have R3 : Hid (∀ W, Below w3.heap.size w3 W → Rd W W.heap.size D1 M (l.take M)) := fun W hW => (HR1.out.1.below (((HB0.out.trans (B5.out.mono (Nat.le_succ _))).trans (hW.mono (by have := HW3.out; omega))).mono HH.out.1)).more (by have := hW.size; have := HW3.out; have := HH.out.1; omega)
      have hd4 : d2.length ≤ 4096 := (blkOk_iff.1 hok).2.2.2.2
      have hcc : 0 ≤ cc ∧ cc ≤ 2 := (blkOk_iff.1 hok).2.2.2.1
      have hlen : (blkW ⟨t, nn, f, cc, d2⟩).length ≤ 140737488355328 := by unfold blkW; rw [List.length_append, sumB_len]; have := body_len ⟨t, nn, f, cc, d2⟩; have := sumN_le cc; simp only at *; omega
      have hsle : sumN cc ≤ (blkW ⟨t, nn, f, cc, d2⟩).length := by unfold blkW; rw [List.length_append, sumB_len]; exact Nat.le_add_left _ _
      have CW := Lib.hid (fun W (hW : Below w3.heap.size w3 W) => bwrite_any ⟨t, nn, f, cc, d2⟩ A2 nd2 cd2 w3.heap.size W hok HBD.out.1 hW.size (hr3.below hW))
      have CS := Lib.hid (fun W => sumsize_any cc W)
      have HDC := Lib.hid (decB_cmp HD.out (by rw [HT.out]; exact hok))
      rw [HT.out] at HDC
      have hbL : ∀ k, k = (blkW ⟨t, nn, f, cc, d2⟩).length → (blkW ⟨t, nn, f, cc, d2⟩).length = k := fun k h => h.symm
      obtain ⟨NB0, hNB⟩ : ∃ k, (blkW ⟨t, nn, f, cc, d2⟩).length = k := ⟨_, rfl⟩
      have HBL := Lib.hid hNB
      rw [hNB] at hlen hsle
      clear hr3 hd4 hcc hb hb5 hb6 hbL
      by_cases hz : cmpB (l.take M) (blkW ⟨t, nn, f, cc, d2⟩) (sumN cc) = 0
      · have HDD : Hid (decB l = (⟨t, nn, f, cc, d2⟩, (M : Int), 0)) := by show _ = _; rw [HDC.out, if_neg (by rw [hz]; simp)]
        clear HDC
        have C8 := Lib.hid (fun (A' : Option Addr) (c' : Nat) (W : World) (hr1 : Rd W W.heap.size D1 M (l.take M)) (hr2 : Rd W W.heap.size A' NB0 (blkW ⟨t, nn, f, cc, d2⟩)) (hc' : NB0 ≤ c') => compare_ok D1 A' M d1 NB0 c' (sumN cc) (l.take M) (blkW ⟨t, nn, f, cc, d2⟩) W hr1 HR1.out.2.1 hr2 hc' hsle (Nat.le_trans HR1.out.2.2 HH.out.2.1) hlen hz)
        clear hz hsle hlen hok hNB
        go_wp2_with fail
        go_region_held3 (fun W => W.cell? ⟨w2.heap.size, 0, none⟩ = some (.int .u64 (t : Int)) ∧ W.cell? ⟨w2.heap.size, 1, none⟩ = some (.int .u64 (nn : Int)) ∧ W.cell? ⟨w2.heap.size, 2, none⟩ = some (.int .u64 (f : Int)) ∧ W.cell? ⟨w2.heap.size, 3, none⟩ = some (.int .i64 cc) ∧ W.cell? ⟨w2.heap.size, 4, none⟩ = some (.slice A2 nd2 cd2))
          (first | (with_reducible exact ⟨x80, x81, x82, x83, x84⟩) | (with_reducible exact ⟨x70, x71, x72, x73, x74⟩) | (with_reducible exact ⟨x60, x61, x62, x63, x64⟩) | (with_reducible exact ⟨gd0, gd1, gd2, gd3, gd4⟩) | fail)
          (first
            | (go_at_call 25; refine (C8.out _ _ _ (R7.out.more (Nat.le_refl _)) S7.out HC4.out).mono ?_; rintro e w8 ⟨rfl, hb8⟩; have hb8' := B7.out.trans (hb8.mono B7.out.size); have x80 := (hb8'.cell (p := ⟨w2.heap.size, 0, none⟩) hlt3).trans g0; have x81 := (hb8'.cell (p := ⟨w2.heap.size, 1, none⟩) hlt3).trans g1; have x82 := (hb8'.cell (p := ⟨w2.heap.size, 2, none⟩) hlt3).trans g2; have x83 := (hb8'.cell (p := ⟨w2.heap.size, 3, none⟩) hlt3).trans g3; have x84 := (hb8'.cell (p := ⟨w2.heap.size, 4, none⟩) hlt3).trans g4; have B8 := Lib.hid hb8'; clear hb8 hb8')
            | (go_at_call 27; refine (CS.out _).mono ?_; rintro e w7 ⟨rfl, hb7⟩; have hb7' := B6.out.trans (hb7.mono B6.out.size); have x70 := (hb7'.cell (p := ⟨w2.heap.size, 0, none⟩) hlt3).trans g0; have x71 := (hb7'.cell (p := ⟨w2.heap.size, 1, none⟩) hlt3).trans g1; have x72 := (hb7'.cell (p := ⟨w2.heap.size, 2, none⟩) hlt3).trans g2; have x73 := (hb7'.cell (p := ⟨w2.heap.size, 3, none⟩) hlt3).trans g3; have x74 := (hb7'.cell (p := ⟨w2.heap.size, 4, none⟩) hlt3).trans g4; have B7 := Lib.hid hb7'; have R7 := Lib.hid ((R3.out _ hb7')); have S7 := Lib.hid ((S6.out.below hb7).more hb7.size); clear hb7 hb7')
            | (go_at_call 26; refine (CW.out _ (Below.drew_)).mono ?_; rintro e w6 ⟨v6, rfl, ho6, hb6⟩; have hb6' : Below w3.heap.size w3 w6 := Below.drew_.trans hb6; have x60 := (hb6'.cell (p := ⟨w2.heap.size, 0, none⟩) hlt3).trans g0; have x61 := (hb6'.cell (p := ⟨w2.heap.size, 1, none⟩) hlt3).trans g1; have x62 := (hb6'.cell (p := ⟨w2.heap.size, 2, none⟩) hlt3).trans g2; have x63 := (hb6'.cell (p := ⟨w2.heap.size, 3, none⟩) hlt3).trans g3; have x64 := (hb6'.cell (p := ⟨w2.heap.size, 4, none⟩) hlt3).trans g4; obtain ⟨A4, c4, rfl, hc4, -, hr4⟩ := ho6.rd; rw [HBL.out] at hr4 hc4 ⊢; have B6 := Lib.hid hb6'; have S6 := Lib.hid hr4; have HC4 := Lib.hid hc4; clear hb6 hb6' ho6 hr4 hc4)
            | fail)
        have hbE := B5.out.trans (B8.out.mono HW3.out)
        obtain ⟨⟨z0, z1, z2, z3, z4⟩, f0, f1, f2, f3, f4⟩ := HZ.out _ hbE
        have BE := Lib.hid hbE
        have RE := Lib.hid ((HR3.out.below B8.out).more B8.out.size)
        clear hbE
        unfold bfl at *
        go_wp2_with fail
        refine bodyPost_ret (v := .tuple #[blkV t nn f cc A2 nd2 cd2, .int .i64 (M : Int), .nilIface]) (by simp [results, Tryz.results8, go_sem, z0, z1, z2, z3, z4, blkV]) rfl ⟨below_put5 (HB0.out.trans (BE.out.mono (Nat.le_succ _))) (Nat.le_refl _), .inl ⟨⟨t, nn, f, cc, d2⟩, A2, nd2, cd2, (M : Int), rfl, HDD.out, HBD.out.1, HBD.out.2, ?_⟩⟩
        exact Rd.put5 RE.out (by simp [World.setCell]) (RE.out.off5 (HZB.out _ BE.out))
      · have HDD : Hid (decB l = (.zero, 0, cmpB (l.take M) (blkW ⟨t, nn, f, cc, d2⟩) (sumN cc))) := by show _ = _; rw [HDC.out, if_pos hz]
        clear HDC
        have C8 := Lib.hid (fun (A' : Option Addr) (c' : Nat) (W : World) (hr1 : Rd W W.heap.size D1 M (l.take M)) (hr2 : Rd W W.heap.size A' NB0 (blkW ⟨t, nn, f, cc, d2⟩)) (hc' : NB0 ≤ c') => compare_no D1 A' M d1 NB0 c' (sumN cc) (l.take M) (blkW ⟨t, nn, f, cc, d2⟩) W hr1 HR1.out.2.1 hr2 hc' hsle (Nat.le_trans HR1.out.2.2 HH.out.2.1) hlen hz)
        have HZC := Lib.hid hz
        generalize hZC : cmpB (l.take M) (blkW ⟨t, nn, f, cc, d2⟩) (sumN cc) = ZC at *
        clear hz hZC hsle hlen hok hNB
        go_wp2_with fail
        go_region_held3 (fun W => W.cell? ⟨w2.heap.size, 0, none⟩ = some (.int .u64 (t : Int)) ∧ W.cell? ⟨w2.heap.size, 1, none⟩ = some (.int .u64 (nn : Int)) ∧ W.cell? ⟨w2.heap.size, 2, none⟩ = some (.int .u64 (f : Int)) ∧ W.cell? ⟨w2.heap.size, 3, none⟩ = some (.int .i64 cc) ∧ W.cell? ⟨w2.heap.size, 4, none⟩ = some (.slice A2 nd2 cd2))
          (first | (with_reducible exact ⟨x80, x81, x82, x83, x84⟩) | (with_reducible exact ⟨x70, x71, x72, x73, x74⟩) | (with_reducible exact ⟨x60, x61, x62, x63, x64⟩) | (with_reducible exact ⟨gd0, gd1, gd2, gd3, gd4⟩) | fail)
          (first
            | (go_at_call 25; refine (C8.out _ _ _ (R7.out.more (Nat.le_refl _)) S7.out HC4.out).mono ?_; rintro e w8 ⟨q8, rfl, hb8⟩; have hb8' := B7.out.trans (hb8.mono B7.out.size); have x80 := (hb8'.cell (p := ⟨w2.heap.size, 0, none⟩) hlt3).trans g0; have x81 := (hb8'.cell (p := ⟨w2.heap.size, 1, none⟩) hlt3).trans g1; have x82 := (hb8'.cell (p := ⟨w2.heap.size, 2, none⟩) hlt3).trans g2; have x83 := (hb8'.cell (p := ⟨w2.heap.size, 3, none⟩) hlt3).trans g3; have x84 := (hb8'.cell (p := ⟨w2.heap.size, 4, none⟩) hlt3).trans g4; have B8 := Lib.hid hb8'; clear hb8 hb8')
            | (go_at_call 27; refine (CS.out _).mono ?_; rintro e w7 ⟨rfl, hb7⟩; have hb7' := B6.out.trans (hb7.mono B6.out.size); have x70 := (hb7'.cell (p := ⟨w2.heap.size, 0, none⟩) hlt3).trans g0; have x71 := (hb7'.cell (p := ⟨w2.heap.size, 1, none⟩) hlt3).trans g1; have x72 := (hb7'.cell (p := ⟨w2.heap.size, 2, none⟩) hlt3).trans g2; have x73 := (hb7'.cell (p := ⟨w2.heap.size, 3, none⟩) hlt3).trans g3; have x74 := (hb7'.cell (p := ⟨w2.heap.size, 4, none⟩) hlt3).trans g4; have B7 := Lib.hid hb7'; have R7 := Lib.hid ((R3.out _ hb7')); have S7 := Lib.hid ((S6.out.below hb7).more hb7.size); clear hb7 hb7')
            | (go_at_call 26; refine (CW.out _ (Below.drew_)).mono ?_; rintro e w6 ⟨v6, rfl, ho6, hb6⟩; have hb6' : Below w3.heap.size w3 w6 := Below.drew_.trans hb6; have x60 := (hb6'.cell (p := ⟨w2.heap.size, 0, none⟩) hlt3).trans g0; have x61 := (hb6'.cell (p := ⟨w2.heap.size, 1, none⟩) hlt3).trans g1; have x62 := (hb6'.cell (p := ⟨w2.heap.size, 2, none⟩) hlt3).trans g2; have x63 := (hb6'.cell (p := ⟨w2.heap.size, 3, none⟩) hlt3).trans g3; have x64 := (hb6'.cell (p := ⟨w2.heap.size, 4, none⟩) hlt3).trans g4; obtain ⟨A4, c4, rfl, hc4, -, hr4⟩ := ho6.rd; rw [HBL.out] at hr4 hc4 ⊢; have B6 := Lib.hid hb6'; have S6 := Lib.hid hr4; have HC4 := Lib.hid hc4; clear hb6 hb6' ho6 hr4 hc4)
            | fail)
        have hbE := B5.out.trans (B8.out.mono HW3.out)
        obtain ⟨⟨z0, z1, z2, z3, z4⟩, f0, f1, f2, f3, f4⟩ := HZ.out _ hbE
        have BE := Lib.hid hbE
        have RE := Lib.hid ((HR3.out.below B8.out).more B8.out.size)
        clear hbE
        unfold bfl at *
        go_wp2_with fail
        refine bodyPost_ret (v := .tuple #[blkV 0 0 0 0 none 0 0, .int .i64 0, bfl ZC q8]) (by simp [results, Tryz.results8, go_sem, z0, z1, z2, z3, z4, blkV, bfl]) rfl ⟨below_put5 (HB0.out.trans (BE.out.mono (Nat.le_succ _))) (Nat.le_refl _), .inr ⟨ZC, q8, HZC.out, HDD.out, rfl⟩⟩
    · have hb5 := B4.out.trans (hb.mono (by have := HW1.out; have := HW2.out; simp; omega))
      obtain ⟨⟨z0, z1, z2, z3, z4⟩, f0, f1, f2, f3, f4⟩ := HZ.out _ hb5
      have B5 := Lib.hid hb5
      have HDD := Lib.hid (decB_not HD.out (by rw [HT.out]; exact hok))
      clear hb hb5 hok
      unfold bfl at *
      go_wp2_with fail
      refine bodyPost_ret (v := .tuple #[blkV 0 0 0 0 none 0 0, .int .i64 0, bfl 50 s]) (by simp [results, Tryz.results8, go_sem, z0, z1, z2, z3, z4, blkV, bfl]) rfl ⟨below_put5 (HB0.out.trans (B5.out.mono (Nat.le_succ _))) (Nat.le_refl _), .inr ⟨50, s, by decide, HDD.out, rfl⟩⟩
end Go.Proofs.YtbdjkihgcmebgaaGreatDoor
/- What Decode of layer 5 returns. -/
namespace Go.Proofs.YtbdjkihgcmebgaaGreatDoor
open Go.RowKit

/-- What Decode answers. -/
def DecB (l : List UInt8) (w : World) (e : Ending) (w' : World) : Prop := Below w.heap.size w w' ∧
  ∃ (b : Blk) (A : Option Addr) (nd cd : Nat) (N z : Int), e = .returned (.tuple #[blkV b.typ b.num b.flg b.crc A nd cd, .int .i64 N, .int .i64 z]) ∧ decB l = (b, N, z) ∧ Bd b ∧ (nd ≤ cd ∧ nd ≤ 140737488355328) ∧ Rd w' w'.heap.size A nd b.dat

set_option maxRecDepth 100000 in
set_option maxHeartbeats 8000000 in
theorem bdecode_any (A : Option Addr) (n c B : Nat) (l : List UInt8) (w : World) (hB : B ≤ w.heap.size) (h : Rd w B A n l) (hn : n ≤ 140737488355328) (hc : n ≤ c) (hL : LaidE w) :
    Calls Tryz.prog 4 #[.slice A n c] w (DecB l w) := by
  have HB0 := Lib.hid ((Below.refl w.heap.size w).alloc (Nat.le_refl _) (.cells #[.int .u64 0, .int .u64 0, .int .u64 0, .int .i64 0, .slice none 0 0] 25))
  have HLT := Lib.hid hL.lt
  have HL := Lib.hid hL
  have C1 := Lib.hid (bread_any A n c B l (w.alloc (.cells #[.int .u64 0, .int .u64 0, .int .u64 0, .int .i64 0, .slice none 0 0] 25)) (Nat.le_trans hB (le_alloc _ _)) (h.alloc hB _) hn hc (hL.below HB0.out hL.lt))
  have HZ := Lib.hid (fun (W : World) (hb : Below (w.heap.size + 1) (w.alloc (.cells #[.int .u64 0, .int .u64 0, .int .u64 0, .int .i64 0, .slice none 0 0] 25)) W) => zero5 (g := w.heap.size) rfl hb)
  have HZB : Hid (∀ (W : World) (_ : Below (w.heap.size + 1) (w.alloc (.cells #[.int .u64 0, .int .u64 0, .int .u64 0, .int .i64 0, .slice none 0 0] 25)) W), W.heap[w.heap.size]? = some (.cells #[.int .u64 0, .int .u64 0, .int .u64 0, .int .i64 0, .slice none 0 0] 25 (0, 0))) := fun W hb => by
    rw [hb.block w.heap.size (Nat.lt_succ_self _)]; exact heap_alloc_new w _
  have hs0 : (w.alloc (.cells #[.int .u64 0, .int .u64 0, .int .u64 0, .int .i64 0, .slice none 0 0] 25)).heap.size = w.heap.size + 1 := by simp
  clear h hB hn hc hL
  go_enter Tryz.func4, Tryz.ntmps4
  go_wp2_with fail
  refine C1.out.mono ?_
  rintro e w1 ⟨hb1, ⟨b, A1, nd, cd, N, rfl, hd, hbd, hnd, hr⟩ | ⟨z, s, hz, hd, rfl⟩⟩
  · rw [hs0] at hb1
    have hw1 : w.heap.size + 1 ≤ w1.heap.size := by have := hb1.size; rw [hs0] at this; exact this
    have HNE : Hid (¬ w.heap.size = w1.heap.size) := fun h => by omega
    have hb2 := hb1.alloc hw1 (.cells #[.int .u64 (b.typ : Int), .int .u64 (b.num : Int), .int .u64 (b.flg : Int), .int .i64 b.crc, .slice A1 nd cd] 25)
    have hlt1 : w1.heap.size < (w1.alloc (.cells #[.int .u64 (b.typ : Int), .int .u64 (b.num : Int), .int .u64 (b.flg : Int), .int .i64 b.crc, .slice A1 nd cd] 25)).heap.size := by simp
    obtain ⟨g0, g1, g2, g3, g4⟩ := box5 rfl (Below.refl (w1.heap.size + 1) (w1.alloc (.cells #[.int .u64 (b.typ : Int), .int .u64 (b.num : Int), .int .u64 (b.flg : Int), .int .i64 b.crc, .slice A1 nd cd] 25)))
    have gd0 := drew_cell g0
    have gd1 := drew_cell g1
    have gd2 := drew_cell g2
    have gd3 := drew_cell g3
    have gd4 := drew_cell g4
    have B2 := Lib.hid hb2
    have hs2 : (w1.alloc (.cells #[.int .u64 (b.typ : Int), .int .u64 (b.num : Int), .int .u64 (b.flg : Int), .int .i64 b.crc, .slice A1 nd cd] 25)).heap.size = w1.heap.size + 1 := by simp
    have HS2 := Lib.hid hs2
    have HW1 := Lib.hid hw1
    have HD := Lib.hid hd
    have HLL := Lib.hid (HL.out.below (HB0.out.trans (hb2.mono (Nat.le_succ _))) HLT.out)
    have HR1 := Lib.hid (And.intro hbd (And.intro hnd hr))
    have CN : Hid (∀ W, Below (w1.alloc (.cells #[.int .u64 (b.typ : Int), .int .u64 (b.num : Int), .int .u64 (b.flg : Int), .int .i64 b.crc, .slice A1 nd cd] 25)).heap.size (w1.alloc (.cells #[.int .u64 (b.typ : Int), .int .u64 (b.num : Int), .int .u64 (b.flg : Int), .int .i64 b.crc, .slice A1 nd cd] 25)) W → Calls Tryz.prog 9 #[.nilIface] W fun e w' => e = .returned (.int .i64 0) ∧ Below W.heap.size W w') := fun W _ => bnumber_nil W
    have HR2 : Hid (Rd (w1.alloc (.cells #[.int .u64 (b.typ : Int), .int .u64 (b.num : Int), .int .u64 (b.flg : Int), .int .i64 b.crc, .slice A1 nd cd] 25)) w1.heap.size A1 nd b.dat) := hr.alloc (Nat.le_refl _) _
    clear hbd hnd hr
    clear hb1 hb2 hw1 hs2 hd
    unfold blkV at *
    go_wp2_with fail
    generalize (w1.alloc (.cells #[.int .u64 (b.typ : Int), .int .u64 (b.num : Int), .int .u64 (b.flg : Int), .int .i64 b.crc, .slice A1 nd cd] 25)) = W2 at *
    go_region_held3 (fun W => W.cell? ⟨w1.heap.size, 0, none⟩ = some (.int .u64 (b.typ : Int)) ∧ W.cell? ⟨w1.heap.size, 1, none⟩ = some (.int .u64 (b.num : Int)) ∧ W.cell? ⟨w1.heap.size, 2, none⟩ = some (.int .u64 (b.flg : Int)) ∧ W.cell? ⟨w1.heap.size, 3, none⟩ = some (.int .i64 b.crc) ∧ W.cell? ⟨w1.heap.size, 4, none⟩ = some (.slice A1 nd cd))
      (first | (with_reducible exact ⟨put5_cell x30 HNE.out, put5_cell x31 HNE.out, put5_cell x32 HNE.out, put5_cell x33 HNE.out, put5_cell x34 HNE.out⟩) | (with_reducible exact ⟨x30, x31, x32, x33, x34⟩) | (with_reducible exact ⟨gd0, gd1, gd2, gd3, gd4⟩) | fail)
      (first
        | (go_at_call 9; refine (CN.out _ (Below.drew_)).mono ?_; rintro e w3 ⟨rfl, hb3⟩; have hb3' : Below W2.heap.size W2 w3 := Below.drew_.trans hb3; have x30 := (hb3'.cell (p := ⟨w1.heap.size, 0, none⟩) hlt1).trans g0; have x31 := (hb3'.cell (p := ⟨w1.heap.size, 1, none⟩) hlt1).trans g1; have x32 := (hb3'.cell (p := ⟨w1.heap.size, 2, none⟩) hlt1).trans g2; have x33 := (hb3'.cell (p := ⟨w1.heap.size, 3, none⟩) hlt1).trans g3; have x34 := (hb3'.cell (p := ⟨w1.heap.size, 4, none⟩) hlt1).trans g4; have hbE := B2.out.trans (hb3'.mono (by have := HS2.out; have := HW1.out; omega)); obtain ⟨⟨z0, z1, z2, z3, z4⟩, f0, f1, f2, f3, f4⟩ := HZ.out _ hbE; have BE := Lib.hid hbE; have B3 := Lib.hid hb3'; clear hb3 hb3' hbE)
        | fail)
    go_wp2_with fail
    have RE := HR2.out.below (B3.out.mono (by have := HS2.out; omega))
    refine bodyPost_ret (v := .tuple #[blkV b.typ b.num b.flg b.crc A1 nd cd, .int .i64 N, .int .i64 0]) (by simp [results, Tryz.results4, go_sem, z0, z1, z2, z3, z4, blkV]) rfl ⟨below_put5 (HB0.out.trans (BE.out.mono (Nat.le_succ _))) (Nat.le_refl _), b, A1, nd, cd, N, 0, rfl, HD.out, HR1.out.1, HR1.out.2.1, ?_⟩
    exact Rd.put5 RE (by have := B3.out.size; have := HS2.out; simp [World.setCell]; omega) (RE.off5 (HZB.out _ BE.out))
  · rw [hs0] at hb1
    have hw1 : w.heap.size + 1 ≤ w1.heap.size := by have := hb1.size; rw [hs0] at this; exact this
    have HNE : Hid (¬ w.heap.size = w1.heap.size) := fun h => by omega
    have hb2 := hb1.alloc hw1 (.cells #[.int .u64 0, .int .u64 0, .int .u64 0, .int .i64 0, .slice none 0 0] 25)
    have hlt1 : w1.heap.size < (w1.alloc (.cells #[.int .u64 0, .int .u64 0, .int .u64 0, .int .i64 0, .slice none 0 0] 25)).heap.size := by simp
    obtain ⟨g0, g1, g2, g3, g4⟩ := box5 rfl (Below.refl (w1.heap.size + 1) (w1.alloc (.cells #[.int .u64 0, .int .u64 0, .int .u64 0, .int .i64 0, .slice none 0 0] 25)))
    have gd0 := drew_cell g0
    have gd1 := drew_cell g1
    have gd2 := drew_cell g2
    have gd3 := drew_cell g3
    have gd4 := drew_cell g4
    have B2 := Lib.hid hb2
    have hs2 : (w1.alloc (.cells #[.int .u64 0, .int .u64 0, .int .u64 0, .int .i64 0, .slice none 0 0] 25)).heap.size = w1.heap.size + 1 := by simp
    have HS2 := Lib.hid hs2
    have HW1 := Lib.hid hw1
    have HD := Lib.hid hd
    have HLL := Lib.hid (HL.out.below (HB0.out.trans (hb2.mono (Nat.le_succ _))) HLT.out)
    have CN : Hid (∀ W, Below (w1.alloc (.cells #[.int .u64 0, .int .u64 0, .int .u64 0, .int .i64 0, .slice none 0 0] 25)).heap.size (w1.alloc (.cells #[.int .u64 0, .int .u64 0, .int .u64 0, .int .i64 0, .slice none 0 0] 25)) W → Calls Tryz.prog 9 #[bfl z s] W fun e w' => e = .returned (.int .i64 z) ∧ Below W.heap.size W w') := fun W hW => bnumber_any z s W (HLL.out.below hW HLL.out.lt)
    clear hb1 hb2 hw1 hs2 hd
    unfold blkV bfl at *
    go_wp2_with fail
    generalize (w1.alloc (.cells #[.int .u64 0, .int .u64 0, .int .u64 0, .int .i64 0, .slice none 0 0] 25)) = W2 at *
    go_region_held3 (fun W => W.cell? ⟨w1.heap.size, 0, none⟩ = some (.int .u64 0) ∧ W.cell? ⟨w1.heap.size, 1, none⟩ = some (.int .u64 0) ∧ W.cell? ⟨w1.heap.size, 2, none⟩ = some (.int .u64 0) ∧ W.cell? ⟨w1.heap.size, 3, none⟩ = some (.int .i64 0) ∧ W.cell? ⟨w1.heap.size, 4, none⟩ = some (.slice none 0 0))
      (first | (with_reducible exact ⟨put5_cell x30 HNE.out, put5_cell x31 HNE.out, put5_cell x32 HNE.out, put5_cell x33 HNE.out, put5_cell x34 HNE.out⟩) | (with_reducible exact ⟨x30, x31, x32, x33, x34⟩) | (with_reducible exact ⟨gd0, gd1, gd2, gd3, gd4⟩) | fail)
      (first
        | (go_at_call 9; refine (CN.out _ (Below.drew_)).mono ?_; rintro e w3 ⟨rfl, hb3⟩; have hb3' : Below W2.heap.size W2 w3 := Below.drew_.trans hb3; have x30 := (hb3'.cell (p := ⟨w1.heap.size, 0, none⟩) hlt1).trans g0; have x31 := (hb3'.cell (p := ⟨w1.heap.size, 1, none⟩) hlt1).trans g1; have x32 := (hb3'.cell (p := ⟨w1.heap.size, 2, none⟩) hlt1).trans g2; have x33 := (hb3'.cell (p := ⟨w1.heap.size, 3, none⟩) hlt1).trans g3; have x34 := (hb3'.cell (p := ⟨w1.heap.size, 4, none⟩) hlt1).trans g4; have hbE := B2.out.trans (hb3'.mono (by have := HS2.out; have := HW1.out; omega)); obtain ⟨⟨z0, z1, z2, z3, z4⟩, f0, f1, f2, f3, f4⟩ := HZ.out _ hbE; have BE := Lib.hid hbE; have B3 := Lib.hid hb3'; clear hb3 hb3' hbE)
        | fail)
    go_wp2_with fail
    refine bodyPost_ret (v := .tuple #[blkV 0 0 0 0 none 0 0, .int .i64 0, .int .i64 z]) (by simp [results, Tryz.results4, go_sem, z0, z1, z2, z3, z4, blkV]) rfl ⟨below_put5 (HB0.out.trans (BE.out.mono (Nat.le_succ _))) (Nat.le_refl _), Blk.zero, none, 0, 0, 0, z, rfl, HD.out, ⟨by decide, by decide, by decide⟩, ⟨Nat.le_refl _, by decide⟩, Rd.nil_⟩
end Go.Proofs.YtbdjkihgcmebgaaGreatDoor
