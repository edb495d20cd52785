/- RecordReads. (Made by gen/RecW3.py.) -/
import Derived.Test.YtlkppnghfgiapaaDoorRecW2
namespace Go.Proofs.YtlkppnghfgiapaaDoor
open Go.RowKit

theorem scanF_len (salt : Nat) : ∀ (f : Nat) (b : List UInt8), (scanF salt f b).1.length ≤ f
  | 0, _ => Nat.le_refl _
  | f + 1, b => by
    rw [scanF]
    split
    · rw [List.length_cons]
      exact Nat.succ_le_succ (scanF_len salt f _)
    · exact Nat.zero_le _
theorem scanR_len (salt : Nat) (b : List UInt8) : (scanR salt b).1.length ≤ b.length + 1 := scanF_len salt _ b
theorem RwC.below {w w' : World} {B n : Nat} {A : Option Addr} {l : List Rcd} (h : RwC w B A n l) (hb : Below B w w') : RwC w' B A n l :=
  ⟨h.1, fun h0 => by
    obtain ⟨b, o, e, hB, hx⟩ := h.2 h0
    exact ⟨b, o, e, hB, hx.below hB hb⟩⟩
theorem RwC.more {w : World} {B B' n : Nat} {A : Option Addr} {l : List Rcd} (h : RwC w B A n l) (hB : B ≤ B') : RwC w B' A n l :=
  ⟨h.1, fun h0 => by
    obtain ⟨b, o, e, hb, hx⟩ := h.2 h0
    exact ⟨b, o, e, Nat.lt_of_lt_of_le hb hB, hx.more hB⟩⟩
theorem nextR_small (salt : Nat) (L : List UInt8) : (nextR salt L).1.dat.length ≤ 8192 := by
  by_cases h0 : (nextR salt L).2.2 = 0
  · obtain ⟨r, e, hr, -, -⟩ := next_ok h0
    rw [e]
    exact (rokR_iff.1 hr).2.2
  · rw [(next_no h0).1]
    exact Nat.zero_le _

set_option maxRecDepth 100000 in
set_option maxHeartbeats 16000000 in
theorem recordReads_walk (a0 : Int) (A : Option Addr) (n c : Nat) (l : List UInt8) (w : World) (X : Snt14) (w0 : (Lit.int .u64 a0).wf = true) (hd : Rd w w.heap.size A n l ∧ n ≤ c ∧ c ≤ 140737488351232) (hA : Lds14 X w) :
    Calls Tryd.prog 4 #[.int .u64 a0, .slice A n c] w fun e w' => e = .returned (.bool true) ∧ Below w.heap.size w w' := by
  obtain ⟨salt, rfl, hsl⟩ := nat_u64_14 w0
  obtain ⟨h, hnc, hc2⟩ := hd
  have LA : Hid (∀ W, Below w.heap.size w W → Lds14 X W) := fun W hW => hA.below hW (Nat.le_refl _)
  have HH := Lib.hid (fun W (hW : Below w.heap.size w W) => heads14_any X W (LA.out W hW))
  by_cases hlong : n ≤ 20000
  case neg =>
    have hi : (20000 : Int) < (n : Int) := by omega
    clear h hA hlong
    go_enter Tryd.func4, Tryd.ntmps4
    go_wp2_with fail
    refine (HH.out w (Below.refl _ _)).mono ?_
    rintro e w2 ⟨rfl, hb2⟩
    have B2 := Lib.hid hb2
    clear hb2
    go_wp2_with fail
    go_ret
    exact ⟨rfl, B2.out⟩
  have hi : ¬ (20000 : Int) < (n : Int) := by omega
  have R1 := Lib.hid (fun W (hW : Below w.heap.size w W) => h.below hW)
  have CN := Lib.hid (cnext_any X salt A n c _ l w (LA.out w (Below.refl _ _)) hsl h (Nat.le_refl _) (by omega) hnc (by omega))
  have RN := Lib.hid (fun W (hW : Below w.heap.size w W) => rnext_any salt A n c _ l W hsl (R1.out W hW) hW.size (by omega) hnc)
  have CS := Lib.hid (fun W (hW : Below w.heap.size w W) => cscan_any X salt A n c _ l W (LA.out W hW) hsl (R1.out W hW) hW.size (by omega) hnc (by omega))
  have RS := Lib.hid (fun W (hW : Below w.heap.size w W) => rscan_any salt A n c _ l W hsl (R1.out W hW) hW.size (by omega) hnc)
  unfold NexR recV at CN RN
  unfold ScnR at CS RS
  have HSM := Lib.hid (nextR_small salt l)
  have HKL := Lib.hid (scanR_len salt l)
  have HKN : Hid (l.length + 1 ≤ 20001) := by show _ ≤ _; have := h.1; omega
  generalize nextR salt l = NX at *
  obtain ⟨⟨ty, dt⟩, sz, er⟩ := NX
  generalize scanR salt l = SX at *
  obtain ⟨sl, sn⟩ := SX
  have HSM2 : Hid (dt.length ≤ 8192) := HSM.out
  have HK2 : Hid (sl.length ≤ l.length + 1) := HKL.out
  clear h hnc hc2 hsl w0 hlong hA HSM HKL
  go_enter Tryd.func4, Tryd.ntmps4
  go_upto_region 4 with (first
    | (go_at_call 13; refine CN.out.mono ?_; rintro e w2 ⟨hb2, A2, n2, c2, rfl, ho2⟩; have O2 := Lib.hid ho2; have B2 := Lib.hid hb2; clear ho2 hb2)
    | fail)
  obtain ⟨wa, hwa⟩ : ∃ wa, wa = w2.alloc (.cells #[.int .i64 ty, .slice A2 n2 c2] 25) := ⟨_, rfl⟩
  have ba : Below w2.heap.size w2 wa := by rw [hwa]; exact (Below.refl _ _).alloc (Nat.le_refl _) _
  have ka : wa.heap[w2.heap.size]? = some (.cells #[.int .i64 ty, .slice A2 n2 c2] 25 (0, 0)) := by rw [hwa]; exact heap_alloc_new w2 _
  have KA := Lib.hid ka
  have GA : Hid (w2.heap.size < wa.heap.size) := (Array.getElem?_eq_some_iff.1 ka).1
  have BA : Hid (Below w.heap.size w wa) := B2.out.trans (ba.mono B2.out.size)
  have OA := Lib.hid (O2.out.below ba)
  rw [← hwa]
  clear hwa ba ka O2
  go_upto_region 5 with (first
    | (go_at_call 14; refine (RN.out wa BA.out).mono ?_; rintro e w3 ⟨hb3, A3, n3, c3, rfl, ho3⟩; have O3 := Lib.hid ho3; have D3 := Lib.hid hb3; clear ho3 hb3)
    | fail)
  obtain ⟨wb, hwb⟩ : ∃ wb, wb = w3.alloc (.cells #[.int .i64 ty, .slice A3 n3 c3] 25) := ⟨_, rfl⟩
  have bb : Below w3.heap.size w3 wb := by rw [hwb]; exact (Below.refl _ _).alloc (Nat.le_refl _) _
  have kb : wb.heap[w3.heap.size]? = some (.cells #[.int .i64 ty, .slice A3 n3 c3] 25 (0, 0)) := by rw [hwb]; exact heap_alloc_new w3 _
  have KB := Lib.hid kb
  have GB : Hid (w3.heap.size < wb.heap.size) := (Array.getElem?_eq_some_iff.1 kb).1
  have DB : Hid (Below wa.heap.size wa wb) := D3.out.trans (bb.mono D3.out.size)
  have BB : Hid (Below w.heap.size w wb) := BA.out.trans (DB.out.mono BA.out.size)
  have OB := Lib.hid (O3.out.below bb)
  rw [← hwb]
  clear hwb bb kb O3
  go_upto_region 6 with (first
    | (go_at_call 15; refine (CS.out wb BB.out).mono ?_; rintro e w4 ⟨hb4, v4, q4, rfl, hs4, hq4⟩; have S4 := Lib.hid hs4; have Q4 := Lib.hid hq4; have D4 := Lib.hid hb4; have B4 := Lib.hid (BB.out.trans (hb4.mono BB.out.size)); clear hs4 hq4 hb4)
    | fail)
  go_upto_region 7 with (first
    | (go_at_call 16; refine (RS.out w4 B4.out).mono ?_; rintro e w5 ⟨hb5, v5, q5, rfl, hs5, hq5⟩; have S5 := Lib.hid hs5; have Q5 := Lib.hid hq5; have D5 := Lib.hid hb5; have B5 := Lib.hid (B4.out.trans (hb5.mono B4.out.size)); clear hs5 hq5 hb5)
    | fail)
  obtain ⟨A4, c4, rfl, -, hw4⟩ := S4.out.rw
  obtain ⟨A5, c5, rfl, -, hw5⟩ := S5.out.rw
  rw [Q4.out] at hw4
  rw [Q5.out] at hw5
  obtain ⟨K, hK⟩ : ∃ K, K = sl.length := ⟨_, rfl⟩
  have e4 : q4.length = K := by rw [hK, ← Q4.out, List.length_map]
  have e5 : q5.length = K := by rw [hK, ← Q5.out, List.length_map]
  rw [e4] at hw4
  rw [e5] at hw5
  rw [e4, e5]
  have hK2 : K ≤ 140737488355328 := by rw [hK]; have := HK2.out; have := HKN.out; omega
  obtain ⟨w6, h6⟩ : ∃ w6, w6 = w5.alloc (.cells #[.int .i64 ty, .slice A2 n2 c2] 25) := ⟨_, rfl⟩
  obtain ⟨w7, h7⟩ : ∃ w7, w7 = w6.alloc (.cells #[.int .i64 ty, .slice A3 n3 c3] 25) := ⟨_, rfl⟩
  have z6 : w6.heap.size = w5.heap.size + 1 := by rw [h6]; simp
  have b6 : Below w5.heap.size w5 w6 := by rw [h6]; exact (Below.refl _ _).alloc (Nat.le_refl _) _
  have b67 : Below w6.heap.size w6 w7 := by rw [h7]; exact (Below.refl _ _).alloc (Nat.le_refl _) _
  have b7 : Below w5.heap.size w5 w7 := b6.trans (b67.mono b6.size)
  have DB5 : Hid (Below wb.heap.size wb w5) := D4.out.trans (D5.out.mono D4.out.size)
  have k6 : w7.heap[w5.heap.size]? = some (.cells #[.int .i64 ty, .slice A2 n2 c2] 25 (0, 0)) := by rw [h7, heap_alloc_old w6 _ (by omega), h6]; exact heap_alloc_new w5 _
  have k7 : w7.heap[w6.heap.size]? = some (.cells #[.int .i64 ty, .slice A3 n3 c3] 25 (0, 0)) := by rw [h7]; exact heap_alloc_new w6 _
  have DA5 : Hid (Below wa.heap.size wa w5) := DB.out.trans (DB5.out.mono DB.out.size)
  obtain ⟨⟨x0, x1⟩, -, -⟩ := row2 ((DA5.out.block _ GA.out).trans KA.out)
  obtain ⟨⟨y0, y1⟩, -, -⟩ := row2 ((b6.block _ (Nat.lt_of_lt_of_le GB.out DB5.out.size)).trans ((DB5.out.block _ GB.out).trans KB.out))
  have B7 : Hid (Below w.heap.size w w7) := B5.out.trans (b7.mono B5.out.size)
  have o2 := (OA.out.below (DA5.out.trans (b7.mono DA5.out.size))).rd_
  have o3 := (OB.out.below (DB5.out.trans (b7.mono DB5.out.size))).rd_
  have hm2 : n2 ≤ 140737488355328 := by have h : dt.length = n2 := o2.1; have := HSM2.out; omega
  have hm3 : n3 ≤ 140737488355328 := by have h : dt.length = n3 := o3.1; have := HSM2.out; omega
  have CM := Lib.hid (rsameR_any (some ⟨w5.heap.size, 0, none⟩) (some ⟨w6.heap.size, 0, none⟩) 1 1 1 1 w7.heap.size [⟨ty, dt⟩] [⟨ty, dt⟩] w7 (rwc_one k6 o2.2.2.1 hm2 o2.2.1) (rwc_one k7 o3.2.2.1 hm3 o3.2.1) (Nat.le_refl _) (by decide))
  have H4 := Lib.hid ((hw4.below D5.out).more D5.out.size)
  have H5 := Lib.hid hw5
  have D7 := Lib.hid b7
  have CM2 := Lib.hid (fun W (hW : Below w5.heap.size w5 W) => rsameR_any A4 A5 K c4 K c5 w5.heap.size sl sl W (H4.out.below hW) (H5.out.below hW) hW.size hK2)
  have H7 : Hid (w7 = (w5.alloc (.cells #[.int .i64 ty, .slice A2 n2 c2] 25)).alloc (.cells #[.int .i64 ty, .slice A3 n3 c3] 25)) := by show _ = _; rw [h7, h6]
  rw [z6] at CM
  rw [h6] at y0 y1
  clear h6 h7 z6 b6 b67 b7 k6 k7 o2 o3 hm2 hm3 e4 e5 hK hK2 hw4 hw5
  go_wp2_with (first
    | (go_at_call 17; rw [← H7.out]; refine CM.out.mono ?_; rintro e w8 ⟨rb, rfl, hrb, hb8⟩; obtain rfl : rb = true := (by simpa using hrb); have D8 := Lib.hid (D7.out.trans (hb8.mono D7.out.size)); have B8 := Lib.hid (B7.out.trans (hb8.mono B7.out.size)); clear hrb hb8 x0 x1 y0 y1 H7)
    | (go_at_call 17; refine (CM2.out w8 D8.out).mono ?_; rintro e w9 ⟨rb, rfl, hrb, hb9⟩; obtain rfl : rb = true := (by simpa using hrb); have B9 := Lib.hid (B8.out.trans (hb9.mono B8.out.size)); clear hrb hb9)
    | (go_at_call 7; refine (HH.out w9 B9.out).mono ?_; rintro e wA ⟨rfl, hbA⟩; have BE := Lib.hid (B9.out.trans (hbA.mono B9.out.size)); clear hbA)
    | fail)
  go_ret
  exact ⟨rfl, BE.out⟩
end Go.Proofs.YtlkppnghfgiapaaDoor
