/- The closed facts that IpptOthers's row asks of the program. (Made by cf.py.) -/
import Derived.Test.YtlecbblmaadpiaaGreatDoorJBunFr
import Derived.Test.YtlecbblmaadpiaaGreatDoorJBunVr
import Derived.Test.YtlecbblmaadpiaaGreatDoorJBunW6
import Derived.Test.YtlecbblmaadpiaaGreatDoorJLawIpptPlain
import Derived.Test.YtlecbblmaadpiaaGreatDoorJRfY
import Derived.Test.YtlecbblmaadpiaaGreatDoorRows
import Derived.Test.YtlecbblmaadpiaaGreatDoorChecked
import Derived.JoinedCond
import Derived.Deep.DeepHandedRow
import Derived.KernelRfl
import Derived.Lib.SmallJoins
import Derived.ChangeArms
import Derived.WalkKit
import Derived.ProofKit
import Derived.OpenShut
import Derived.ShutString
import Derived.ChangeOld
import Derived.Below
import Derived.SizedLaws
namespace Go.Proofs.YtlecbblmaadpiaaGreatDoor
set_option maxRecDepth 100000 in
set_option maxHeartbeats 8000000 in
theorem ipptOthers_closed : joinedFacts Tryz.pinned.checked.prog 12 Tryz.f12 (OpenSpec.ofChange Rows.ipptOthersSpec).bare Rows.ipptOthersRow = true := by
  unfold joinedFacts
  repeat' (with_reducible refine Bool.and_eq_true_iff.2 ⟨?_, ?_⟩)
  all_goals (as_aux_lemma => kernel_rfl)
end Go.Proofs.YtlecbblmaadpiaaGreatDoor
/- IpptOthers of layer 9's statements, walked. (Made by gen/IpW2.py, gen/bun.py.) -/
namespace Go.Proofs.YtlecbblmaadpiaaGreatDoor
open Go.RowKit
theorem mem_putB {l : List Blk} {x y : Blk} (h : y ∈ putB l x) : y = x ∨ y ∈ l := by
  unfold putB at h
  rw [List.mem_append, List.mem_cons] at h
  rcases h with h | h | h
  · exact .inr (List.mem_of_mem_take h)
  · exact .inl h
  · exact .inr (List.mem_of_mem_drop h)
set_option maxRecDepth 100000 in
set_option maxHeartbeats 16000000 in
theorem ipptOthers_walk (h : BH) (l : List Blk) (A : Option Addr) (n c : Nat) (x : Blk) (Ax : Option Addr) (nx cx : Nat) (a1 a2 : Int) (w : World) (S : Snt) (hin : BunIn w h l A n c) (hxin : BlkIn2 w x Ax nx cx) (h1 : (Lit.int .u64 a1).wf = true) (_h2 : (Lit.int .i64 a2).wf = true) (hS : Wd S w) :
    Calls Tryz.prog 12 #[bunV h A n c, blkV x.typ x.num x.flg x.crc Ax nx cx, .int .u64 a1, .int .i64 a2] w fun e w' => e = .returned (.bool true) ∧ Below w.heap.size w w' := by
  obtain ⟨q, -, rfl⟩ := nat_u64 h1
  obtain ⟨hBd, hr, hc⟩ := hin
  obtain ⟨hbx, hnx, hrx⟩ := hxin
  have HB0 := Lib.hid (((Below.refl w.heap.size w).alloc (Nat.le_refl _) (.cells #[.int .u64 (h.flg : Int), .int .i64 h.crc, .int .i64 h.dsc, .string h.dnm, .int .u64 (h.dn : Int), .int .u64 (h.dv : Int), .int .i64 h.ssc, .string h.snm, .int .u64 (h.sn : Int), .int .u64 (h.sv : Int), .int .i64 h.rsc, .string h.rnm, .int .u64 (h.rn : Int), .int .u64 (h.rv : Int), .int .u64 (h.tim : Int), .int .u64 (h.seq : Int), .int .u64 (h.lif : Int), .slice A n c] 73)).alloc (le_alloc _ _) (.cells #[.int .u64 (x.typ : Int), .int .u64 (x.num : Int), .int .u64 (x.flg : Int), .int .i64 x.crc, .slice Ax nx cx] 48))
  have HW0 : Hid (Below (w.heap.size + 2) ((w.alloc (.cells #[.int .u64 (h.flg : Int), .int .i64 h.crc, .int .i64 h.dsc, .string h.dnm, .int .u64 (h.dn : Int), .int .u64 (h.dv : Int), .int .i64 h.ssc, .string h.snm, .int .u64 (h.sn : Int), .int .u64 (h.sv : Int), .int .i64 h.rsc, .string h.rnm, .int .u64 (h.rn : Int), .int .u64 (h.rv : Int), .int .u64 (h.tim : Int), .int .u64 (h.seq : Int), .int .u64 (h.lif : Int), .slice A n c] 73)).alloc (.cells #[.int .u64 (x.typ : Int), .int .u64 (x.num : Int), .int .u64 (x.flg : Int), .int .i64 x.crc, .slice Ax nx cx] 48)) ((w.alloc (.cells #[.int .u64 (h.flg : Int), .int .i64 h.crc, .int .i64 h.dsc, .string h.dnm, .int .u64 (h.dn : Int), .int .u64 (h.dv : Int), .int .i64 h.ssc, .string h.snm, .int .u64 (h.sn : Int), .int .u64 (h.sv : Int), .int .i64 h.rsc, .string h.rnm, .int .u64 (h.rn : Int), .int .u64 (h.rv : Int), .int .u64 (h.tim : Int), .int .u64 (h.seq : Int), .int .u64 (h.lif : Int), .slice A n c] 73)).alloc (.cells #[.int .u64 (x.typ : Int), .int .u64 (x.num : Int), .int .u64 (x.flg : Int), .int .i64 x.crc, .slice Ax nx cx] 48))) := Below.refl _ _
  have HS0 : Hid (((w.alloc (.cells #[.int .u64 (h.flg : Int), .int .i64 h.crc, .int .i64 h.dsc, .string h.dnm, .int .u64 (h.dn : Int), .int .u64 (h.dv : Int), .int .i64 h.ssc, .string h.snm, .int .u64 (h.sn : Int), .int .u64 (h.sv : Int), .int .i64 h.rsc, .string h.rnm, .int .u64 (h.rn : Int), .int .u64 (h.rv : Int), .int .u64 (h.tim : Int), .int .u64 (h.seq : Int), .int .u64 (h.lif : Int), .slice A n c] 73)).alloc (.cells #[.int .u64 (x.typ : Int), .int .u64 (x.num : Int), .int .u64 (x.flg : Int), .int .i64 x.crc, .slice Ax nx cx] 48)).heap.size = w.heap.size + 2) := by show _ = _; simp
  have HX1 := Lib.hid (fun (W : World) (hb : Below (w.heap.size + 2) ((w.alloc (.cells #[.int .u64 (h.flg : Int), .int .i64 h.crc, .int .i64 h.dsc, .string h.dnm, .int .u64 (h.dn : Int), .int .u64 (h.dv : Int), .int .i64 h.ssc, .string h.snm, .int .u64 (h.sn : Int), .int .u64 (h.sv : Int), .int .i64 h.rsc, .string h.rnm, .int .u64 (h.rn : Int), .int .u64 (h.rv : Int), .int .u64 (h.tim : Int), .int .u64 (h.seq : Int), .int .u64 (h.lif : Int), .slice A n c] 73)).alloc (.cells #[.int .u64 (x.typ : Int), .int .u64 (x.num : Int), .int .u64 (x.flg : Int), .int .i64 x.crc, .slice Ax nx cx] 48)) W) => (row_of_box (w := w) (g := w.heap.size) rfl (((Below.refl (w.heap.size + 1) (w.alloc (.cells #[.int .u64 (h.flg : Int), .int .i64 h.crc, .int .i64 h.dsc, .string h.dnm, .int .u64 (h.dn : Int), .int .u64 (h.dv : Int), .int .i64 h.ssc, .string h.snm, .int .u64 (h.sn : Int), .int .u64 (h.sv : Int), .int .i64 h.rsc, .string h.rnm, .int .u64 (h.rn : Int), .int .u64 (h.rv : Int), .int .u64 (h.tim : Int), .int .u64 (h.seq : Int), .int .u64 (h.lif : Int), .slice A n c] 73))).alloc (by simp) (.cells #[.int .u64 (x.typ : Int), .int .u64 (x.num : Int), .int .u64 (x.flg : Int), .int .i64 x.crc, .slice Ax nx cx] 48)).trans (hb.mono (Nat.le_succ _)))))
  have HX2 := Lib.hid (fun (W : World) (hb : Below (w.heap.size + 2) ((w.alloc (.cells #[.int .u64 (h.flg : Int), .int .i64 h.crc, .int .i64 h.dsc, .string h.dnm, .int .u64 (h.dn : Int), .int .u64 (h.dv : Int), .int .i64 h.ssc, .string h.snm, .int .u64 (h.sn : Int), .int .u64 (h.sv : Int), .int .i64 h.rsc, .string h.rnm, .int .u64 (h.rn : Int), .int .u64 (h.rv : Int), .int .u64 (h.tim : Int), .int .u64 (h.seq : Int), .int .u64 (h.lif : Int), .slice A n c] 73)).alloc (.cells #[.int .u64 (x.typ : Int), .int .u64 (x.num : Int), .int .u64 (x.flg : Int), .int .i64 x.crc, .slice Ax nx cx] 48)) W) => (row_of_box (w := (w.alloc (.cells #[.int .u64 (h.flg : Int), .int .i64 h.crc, .int .i64 h.dsc, .string h.dnm, .int .u64 (h.dn : Int), .int .u64 (h.dv : Int), .int .i64 h.ssc, .string h.snm, .int .u64 (h.sn : Int), .int .u64 (h.sv : Int), .int .i64 h.rsc, .string h.rnm, .int .u64 (h.rn : Int), .int .u64 (h.rv : Int), .int .u64 (h.tim : Int), .int .u64 (h.seq : Int), .int .u64 (h.lif : Int), .slice A n c] 73))) (g := w.heap.size + 1) (by simp) hb))
  have CH := Lib.hid (fun (W : World) (hb : Below w.heap.size w W) => heads09_any S W (hS.below hb (Nat.le_refl _)))
  have CF := Lib.hid (fun (W : World) (hb : Below w.heap.size w W) => few09_any h l A n c W.heap.size W ((hr.below hb).more hb.size) (Nat.le_refl _))
  have CP := Lib.hid (fun (hdat : ∀ y ∈ l, y.dat.length ≤ 5000) (W : World) (hb : Below w.heap.size w W) => ipplain_any S h l A n c W.heap.size q a2 11 9 0 W (hS.below hb (Nat.le_refl _)) hBd ((hr.below hb).more hb.size) (Nat.le_refl _) hc ⟨by decide, by decide, by decide⟩ hdat)
  have CU := Lib.hid (fun (W : World) (hb : Below w.heap.size w W) => rputU_any h l A n c W.heap.size x Ax nx cx W hBd ((hr.below hb).more hb.size) (Nat.le_refl _) hc hbx hnx ((hrx.below hb).more hb.size))
  have CQ := Lib.hid (fun (hdat : ∀ y ∈ putB l x, y.dat.length ≤ 5000) (A : Option Addr) (n c : Nat) (hc : n ≤ c) (W : World) (hb : Below w.heap.size w W) (hr : RdL W W.heap.size A n (putB l x)) => ipplain_any S h (putB l x) A n c W.heap.size q a2 11 9 0 W (hS.below hb (Nat.le_refl _)) hBd hr (Nat.le_refl _) hc ⟨by decide, by decide, by decide⟩ hdat)
  have HLX : Hid (x.dat.length = nx) := hrx.1
  have ROWa := Lib.hid (HX1.out _ HW0.out)
  clear hBd hr hc hS hbx hnx hrx h1 _h2
  obtain ⟨IP, hIP⟩ : ∃ IP, IP = iplU (h.bun l) q a2 11 9 0 := ⟨_, rfl⟩
  rw [← hIP] at CP
  obtain ⟨IQ, hIQ⟩ : ∃ IQ, IQ = iplU (h.bun (putB l x)) q a2 11 9 0 := ⟨_, rfl⟩
  rw [← hIQ] at CQ
  have HPQ : Hid (x.num ≠ q → cauU (h.bun l) = 0 → cauU (h.bun (putB l x)) = 0 → IQ = IP) := fun e1 e2 e3 => by rw [hIP, hIQ]; exact iplU_put h l x q a2 11 9 0 e1 e2 e3
  clear hIP hIQ
  obtain ⟨L, z⟩ := IP
  obtain ⟨LQ, zq⟩ := IQ
  unfold bunV blkV at *
  go_enter Tryz.func12, Tryz.ntmps12
  go_wp2_with (first
    | (refine wpList_ld18 rfl (.tmp 4) rfl _ rfl _ _ ROWa.out rfl ?_)
    | fail)
  refine (CF.out _ HB0.out).mono ?_
  rintro e w1 ⟨R, rfl, hR, hb⟩
  have B1 := Lib.hid (Below.push HW0.out (Nat.le_of_eq HS0.out.symm) hb)
  have T1 := Lib.hid (HB0.out.trans (B1.out.mono (by omega)))
  have ROW1 := Lib.hid (HX1.out _ B1.out)
  have ROWb := Lib.hid (HX2.out _ B1.out)
  have HRR := Lib.hid hR
  clear hb hR ROWa
  cases R with
  | false =>
    go_wp2_with fail
    refine (CH.out w1 T1.out).mono ?_
    rintro e wh ⟨rfl, hb2⟩
    have TH := Lib.hid (T1.out.trans (hb2.mono T1.out.size))
    clear hb2
    go_wp2_with fail
    go_ret
    exact ⟨rfl, TH.out⟩
  | true =>
  have HDT := Lib.hid (HRR.out rfl).2
  have y1 := cell_row ROWb.out 1 rfl
  have y4 := cell_row ROWb.out 4 rfl
  by_cases hn : 1000 < nx
  · have tn : decide ((1000 : Int) < (nx : Int)) = true := decide_eq_true (by omega)
    clear hn
    go_wp2_with fail
    refine (CH.out w1 T1.out).mono ?_
    rintro e wh ⟨rfl, hb2⟩
    have TH := Lib.hid (T1.out.trans (hb2.mono T1.out.size))
    clear hb2
    go_wp2_with fail
    go_ret
    exact ⟨rfl, TH.out⟩
  have tn : decide ((1000 : Int) < (nx : Int)) = false := decide_eq_false (by omega)
  by_cases hq : x.num = q
  · have tq : ((x.num : Int) == (q : Int)) = true := by rw [hq]; simp
    clear hn hq
    go_wp2_with fail
    refine (CH.out w1 T1.out).mono ?_
    rintro e wh ⟨rfl, hb2⟩
    have TH := Lib.hid (T1.out.trans (hb2.mono T1.out.size))
    clear hb2
    go_wp2_with fail
    go_ret
    exact ⟨rfl, TH.out⟩
  have tq : ((x.num : Int) == (q : Int)) = false := by rw [beq_eq_false_iff_ne]; omega
  have HQ := Lib.hid hq
  have HDP : Hid (∀ y ∈ putB l x, y.dat.length ≤ 5000) := fun y hy => by
    rcases mem_putB hy with rfl | hy
    · have := HLX.out; omega
    · exact HDT.out y hy
  clear hn hq
  go_wp2_with (first
    | (refine wpList_ld18 rfl (.tmp 4) rfl _ rfl _ _ ROW1.out rfl ?_)
    | fail)
  refine (CP.out HDT.out w1 T1.out).mono ?_
  rintro e w2 ⟨hb, A2, n2, c2, rfl, hc2, hr2⟩
  have B2 := Lib.hid (B1.out.trans (hb.mono (by have := B1.out.size; have := HS0.out; omega)))
  have T2 := Lib.hid (HB0.out.trans (B2.out.mono (by omega)))
  have ROW2 := Lib.hid (HX1.out _ B2.out)
  have ROWb2 := Lib.hid (HX2.out _ B2.out)
  have R2 := Lib.hid hr2
  clear hb hr2 hc2 ROW1 ROWb y1 y4 tn tq
  have y0 := cell_row ROWb2.out 0 rfl
  have y1 := cell_row ROWb2.out 1 rfl
  have y2 := cell_row ROWb2.out 2 rfl
  have y3 := cell_row ROWb2.out 3 rfl
  have y4 := cell_row ROWb2.out 4 rfl
  go_wp2_with (first
    | (refine wpList_ld18 rfl (.tmp 4) rfl _ rfl _ _ ROW2.out rfl ?_)
    | fail)
  refine (CU.out w2 T2.out).mono ?_
  rintro e w3 ⟨hb, hput⟩
  have T3 := Lib.hid (T2.out.trans (hb.mono T2.out.size))
  have R3 := Lib.hid ((R2.out.below hb).more hb.size)
  clear hb R2 ROW2 y0 y1 y2 y3 y4
  by_cases hz : z = 0
  case neg =>
    have hz1 : (z != 0) = true := by simp [hz]
    clear hz
    rcases hput with ⟨-, -, A4, n4, c4, rfl, -, -⟩ | ⟨-, rfl⟩
    · skip
      go_wp2_with (first
        | (refine wpList_st18 rfl 73 (.tmp 11) (.tmp 42) rfl _ rfl rfl _ _ (heap_alloc_new w3 _) info_bun rfl rfl ?_; intro w4 hrow4 _ _ hbel hsz4; have T4 := Lib.hid (hbel _ _ (T3.out.alloc T3.out.size _) T3.out.size); have D4 := Lib.hid (hbel _ _ ((Below.refl w3.heap.size w3).alloc (Nat.le_refl _) _) (Nat.le_refl _)); have ROW4 := Lib.hid hrow4; clear hbel hrow4 hsz4)
        | fail)
      refine (CH.out w4 T4.out).mono ?_
      rintro e wh ⟨rfl, hb2⟩
      have TH := Lib.hid (T4.out.trans (hb2.mono T4.out.size))
      clear hb2
      go_wp2_with fail
      go_ret
      exact ⟨rfl, TH.out⟩
    · generalize (if cauU (h.bun l) = 0 then cauU (h.bun (putB l x)) else cauU (h.bun l)) = z3 at *
      go_wp2_with (first
        | (refine wpList_st18 rfl 73 (.tmp 11) (.tmp 42) rfl _ rfl rfl _ _ (heap_alloc_new w3 _) info_bun rfl rfl ?_; intro w4 hrow4 _ _ hbel hsz4; have T4 := Lib.hid (hbel _ _ (T3.out.alloc T3.out.size _) T3.out.size); have D4 := Lib.hid (hbel _ _ ((Below.refl w3.heap.size w3).alloc (Nat.le_refl _) _) (Nat.le_refl _)); have ROW4 := Lib.hid hrow4; clear hbel hrow4 hsz4)
        | fail)
      refine (CH.out w4 T4.out).mono ?_
      rintro e wh ⟨rfl, hb2⟩
      have TH := Lib.hid (T4.out.trans (hb2.mono T4.out.size))
      clear hb2
      go_wp2_with fail
      go_ret
      exact ⟨rfl, TH.out⟩
  have hz1 : (z != 0) = false := by simp [hz]
  rcases hput with ⟨e1, e2, A4, n4, c4, rfl, hr4, hc4⟩ | ⟨hno, rfl⟩
  case inr =>
    have hz3 : ((if cauU (h.bun l) = 0 then cauU (h.bun (putB l x)) else cauU (h.bun l)) != 0) = true := by
      by_cases e1 : cauU (h.bun l) = 0
      · rw [if_pos e1]
        have : cauU (h.bun (putB l x)) ≠ 0 := fun e2 => hno ⟨e1, e2⟩
        simpa using this
      · rw [if_neg e1]
        simpa using e1
    generalize (if cauU (h.bun l) = 0 then cauU (h.bun (putB l x)) else cauU (h.bun l)) = z3 at *
    clear hno
    go_wp2_with (first
      | (refine wpList_st18 rfl 73 (.tmp 11) (.tmp 42) rfl _ rfl rfl _ _ (heap_alloc_new w3 _) info_bun rfl rfl ?_; intro w4 hrow4 _ _ hbel hsz4; have T4 := Lib.hid (hbel _ _ (T3.out.alloc T3.out.size _) T3.out.size); have D4 := Lib.hid (hbel _ _ ((Below.refl w3.heap.size w3).alloc (Nat.le_refl _) _) (Nat.le_refl _)); have ROW4 := Lib.hid hrow4; clear hbel hrow4 hsz4)
      | fail)
    refine (CH.out w4 T4.out).mono ?_
    rintro e wh ⟨rfl, hb2⟩
    have TH := Lib.hid (T4.out.trans (hb2.mono T4.out.size))
    clear hb2
    go_wp2_with fail
    go_ret
    exact ⟨rfl, TH.out⟩
  have HPQ2 := HPQ.out HQ.out e1 e2
  obtain ⟨rfl, rfl⟩ : LQ = L ∧ zq = z := by injection HPQ2 with e1 e2; exact ⟨e1, e2⟩
  subst hz
  have R4 := Lib.hid (And.intro hr4 hc4)
  clear HPQ2 hr4 hc4 e1 e2 hz1
  go_wp2_with (first
    | (refine wpList_st18 rfl 73 (.tmp 11) (.tmp 42) rfl _ rfl rfl _ _ (heap_alloc_new w3 _) info_bun rfl rfl ?_; intro w4 hrow4 _ _ hbel hsz4; have T4 := Lib.hid (hbel _ _ (T3.out.alloc T3.out.size _) T3.out.size); have D4 := Lib.hid (hbel _ _ ((Below.refl w3.heap.size w3).alloc (Nat.le_refl _) _) (Nat.le_refl _)); have ROW4 := Lib.hid hrow4; clear hbel hrow4 hsz4)
    | (refine wpList_ld18 rfl (.tmp 11) rfl _ rfl _ _ ROW4.out rfl ?_)
    | fail)
  refine (CQ.out HDP.out A4 n4 c4 R4.out.2 w4 T4.out ((R4.out.1.below D4.out).more D4.out.size)).mono ?_
  rintro e w5 ⟨hb, A5, n5, c5, rfl, hc5, hr5⟩
  have T5 := Lib.hid (T4.out.trans (hb.mono T4.out.size))
  have R5 := Lib.hid (((R3.out.below D4.out).more D4.out.size).below hb)
  have R5b := Lib.hid hr5
  clear hb hr5 hc5 R4 R3
  go_wp2_with fail
  refine (same_true A2 A5 n2 c2 n5 c5 _ _ _ w5 R5.out R5b.out).mono ?_
  rintro e w6 ⟨rfl, rfl⟩
  go_wp2_with fail
  refine (CH.out w5 T5.out).mono ?_
  rintro e wh ⟨rfl, hb2⟩
  have TH := Lib.hid (T5.out.trans (hb2.mono T5.out.size))
  clear hb2
  go_wp2_with fail
  go_ret
  exact ⟨rfl, TH.out⟩
end Go.Proofs.YtlecbblmaadpiaaGreatDoor
/- IpptOthers returns true for every input, and leaves each argument as it was. No condition. -/
namespace Go.Proofs.YtlecbblmaadpiaaGreatDoor.ipptOthers
open Go.ChangeShapes Go.WideShapes Go.ChangeAt Go.RowKit
open Go.ChangeMaps (open_string shut_string)
set_option linter.unusedVariables false
theorem own : ownKnob Tryz.prog.godebug = none := by kernel_rfl
theorem laidOut : laidOutB Tryz.prog = true := by kernel_rfl
set_option maxRecDepth 100000 in
theorem contract (H : Type) (enc : TypeId × Value → H) (W : World) (base : Nat) (args : Array Value) (ds gs : List (DataW H)) (before : List MemPlace)
    (hval0 : ∀ (j : Nat) t v, Tryz.f12.params[j]? = some t → args[j]? = some v → Value.okWide Tryz.prog W .any base t v)
    (hW : DataW.Whole enc Tryz.prog Tryz.f12.params.toList Rows.ipptOthersSpec.vars false W args.toList ds gs before)
    (hsz0 : (DataW.weightsEach Tryz.prog (Tryz.f12.params.toList ++ Rows.ipptOthersSpec.plain.varTypes Tryz.prog) (ds ++ gs)).all (· ≤ reachBytes) = true)
    (hL : laidMetH Tryz.prog laidU W) :
    Calls Tryz.prog 12 args W fun e W' => ∃ v, e = .returned v ∧ Rows.ipptOthersSpec.post enc Tryz.prog Tryz.f12 false true false false W args v W' := by
  have hsz := hsz0
  have hval := hval0
  have hW' := hW
  obtain ⟨p, q, hA0, hV, rfl, hfz, hnd⟩ := hW
  have hA : DataW.TrodAll enc Tryz.prog W 0 (fun _ => true) true Tryz.f12.params.toList args.toList ds p := hA0
  rw [Tryz.params12] at hA hval hsz
  obtain ⟨v0, vs0, d0, ds0, p0, q0, hargs, rfl, rfl, h0, r0⟩ := trodAll_cons hA
  obtain ⟨v1, vs1, d1, ds1, p1, q1, rfl, rfl, rfl, h1, r1⟩ := trodAll_cons r0
  obtain ⟨v2, vs2, d2, ds2, p2, q2, rfl, rfl, rfl, h2, r2⟩ := trodAll_cons r1
  obtain ⟨v3, vs3, d3, ds3, p3, q3, rfl, rfl, rfl, h3, r3⟩ := trodAll_cons r2
  obtain ⟨rfl, rfl, rfl⟩ := trodAll_nil r3
  obtain rfl : args = #[v0, v1, v2, v3] := by cases args; simp_all
  obtain ⟨rfl, rfl⟩ := trodVars_none hV
  obtain ⟨A, hAA⟩ := wd_of hL
  have k0 := h0
  have lt0 : ∀ x ∈ p0, x.block < W.heap.size := by obtain ⟨m, hm⟩ := k0; exact DataW.trod_lt m _ _ _ hm
  have y0 : ∀ x ∈ DataW.weights Tryz.prog 73 d0, x ≤ reachBytes := fun x hx => by have h := List.all_eq_true.1 hsz _ (DataW.weights_mem_each (j := 0) (t := 73) (d := d0) rfl rfl x hx); simpa using h
  obtain ⟨b0, l0, a0, n0, c0, rfl, z0⟩ := open_bun (hval 0 73 v0 rfl rfl) h0 y0
  have k1 := h1
  have lt1 : ∀ x ∈ p1, x.block < W.heap.size := by obtain ⟨m, hm⟩ := k1; exact DataW.trod_lt m _ _ _ hm
  have y1 : ∀ x ∈ DataW.weights Tryz.prog 48 d1, x ≤ reachBytes := fun x hx => by have h := List.all_eq_true.1 hsz _ (DataW.weights_mem_each (j := 1) (t := 48) (d := d1) rfl rfl x hx); simpa using h
  obtain ⟨b1, a1, n1, c1, rfl, z1⟩ := open_blk2 (hval 1 48 v1 rfl rfl) h1 y1
  obtain ⟨a2, rfl, rfl, rfl, w2⟩ := open_int Tryz.underlying23 (hval 2 23 v2 rfl rfl) h2
  obtain ⟨a3, rfl, rfl, rfl, w3⟩ := open_int Tryz.underlying3 (hval 3 3 v3 rfl rfl) h3
  clear hA0 hval0
  refine (ipptOthers_walk b0 l0 a0 n0 c0 b1 a1 n1 c1 a2 a3 W A z0 z1 w2 w3 hAA).mono fun e W' ⟨he, bel⟩ => ?_
  subst he
  exact ⟨_, rfl, _, _, _, [], _, [], hW', trodAll_mk1 (shut_bool Tryz.underlying4 _), (trodAll_cons_mk (Below.trod laidOut (by kernel_rfl) (of_decide_eq_true (by kernel_rfl)) k0 bel lt0) (trodAll_cons_mk (Below.trod laidOut (by kernel_rfl) (of_decide_eq_true (by kernel_rfl)) k1 bel lt1) (trodAll_cons_mk (shut_int Tryz.underlying23 w2) (trodAll_cons_mk (shut_int Tryz.underlying3 w3) trodAll_mk0)))), rfl, bel.frame _, fun h => by cases h⟩
theorem reads (os : Os) {H : Type} (enc : TypeId × Value → H) : ∃ places, DataW.whole enc Tryz.prog ((laidW os).forCall (fun _ _ => 0) ⟨#[], #[.agg #[.int .u64 0, .int .i64 0, .int .i64 0, .string ByteArray.empty, .int .u64 0, .int .u64 0, .int .i64 0, .string ByteArray.empty, .int .u64 0, .int .u64 0, .int .i64 0, .string ByteArray.empty, .int .u64 0, .int .u64 0, .int .u64 0, .int .u64 0, .int .u64 0, .slice none 0 0], .agg #[.int .u64 0, .int .u64 0, .int .u64 0, .int .i64 0, .slice none 0 0], .int .u64 0, .int .i64 0], []⟩).memory Tryz.f12.params.toList Rows.ipptOthersSpec.vars false (#[.agg #[.int .u64 0, .int .i64 0, .int .i64 0, .string ByteArray.empty, .int .u64 0, .int .u64 0, .int .i64 0, .string ByteArray.empty, .int .u64 0, .int .u64 0, .int .i64 0, .string ByteArray.empty, .int .u64 0, .int .u64 0, .int .u64 0, .int .u64 0, .int .u64 0, .slice none 0 0], .agg #[.int .u64 0, .int .u64 0, .int .u64 0, .int .i64 0, .slice none 0 0], .int .u64 0, .int .i64 0] : Array Value).toList 8 = some ([.agg [.lit (.int .u64 0), .lit (.int .i64 0), .agg [.lit (.int .i64 0), .lit (.string []), .lit (.int .u64 0), .lit (.int .u64 0)], .agg [.lit (.int .i64 0), .lit (.string []), .lit (.int .u64 0), .lit (.int .u64 0)], .agg [.lit (.int .i64 0), .lit (.string []), .lit (.int .u64 0), .lit (.int .u64 0)], .lit (.int .u64 0), .lit (.int .u64 0), .lit (.int .u64 0), .nil], .agg [.lit (.int .u64 0), .lit (.int .u64 0), .lit (.int .u64 0), .lit (.int .i64 0), .nil], .lit (.int .u64 0), .lit (.int .i64 0)], [], places) :=
  ⟨[], by kernel_rfl⟩
set_option maxRecDepth 100000 in
theorem lifted (os : Os) (started : os.Started) (H : Type) (enc : TypeId × Value → H) (F : Stop.Interp) :
    ReturnsInHanded {} Tryz.checked os 12 .any ((OpenSpec.ofChange Rows.ipptOthersSpec).preRow enc Tryz.prog Tryz.f12 Rows.ipptOthersRow.domain false Rows.ipptOthersRow.laid) (((OpenSpec.ofChange Rows.ipptOthersSpec).at F).post enc Tryz.prog Tryz.f12 false true false false) := by
  obtain ⟨places, hx⟩ := reads os enc
  refine returnsInHanded_of_row (C := Tryz.checked) (s := OpenSpec.ofChange Rows.ipptOthersSpec) own started (by kernel_rfl) Tryz.func12
    (witness_row_at (enc := enc) (C := Tryz.checked) false (laidW os) #[.agg #[.int .u64 0, .int .i64 0, .int .i64 0, .string ByteArray.empty, .int .u64 0, .int .u64 0, .int .i64 0, .string ByteArray.empty, .int .u64 0, .int .u64 0, .int .i64 0, .string ByteArray.empty, .int .u64 0, .int .u64 0, .int .u64 0, .int .u64 0, .int .u64 0, .slice none 0 0], .agg #[.int .u64 0, .int .u64 0, .int .u64 0, .int .i64 0, .slice none 0 0], .int .u64 0, .int .i64 0] rfl (by kernel_rfl) (by kernel_rfl) (by kernel_rfl)
      (OpenSpec.preRow_of_cond 8 hx (by kernel_rfl) (fun k hk => by cases hk) (by kernel_rfl) (laidW_metH os _))) ?_
  intro W base args ds gs before hval hW _ _ hsz hL _ _
  exact contract H enc W base args ds gs before hval hW hsz hL
theorem said : Rows.IpptOthersSaid :=
  OpenClaim.holds_of_cond 12 Tryz.f12 rfl rfl rfl rfl rfl rfl rfl ⟨rfl, rfl, rfl, rfl, rfl⟩ rfl rfl rfl rfl rfl (by kernel_rfl) Tryz.func12 ipptOthers_closed
    (of_decide_eq_true (by kernel_rfl)) (by unfold Func.isWrapper; first | (rw [if_pos (by decide +kernel)]; kernel_rfl) | (rw [if_neg (by decide +kernel)]; exact ⟨rfl, rfl⟩))
    (fun os started H enc _ F => by rw [OpenClaim.pre_eq_preRow]; exact lifted os started H enc F)
theorem plainParams (f : FuncId) (fn : Func) (hf : Tryz.pinned.checked.prog.funcNamed "fairlead/fairleadlaw09.IpptOthers" = some f) (hfn : Tryz.pinned.checked.prog.funcs[f]? = some fn) :
    true = Tryz.pinned.checked.prog.looks [] ∧ ∀ (j : Nat) t, fn.params[j]? = some t → Tryz.pinned.checked.prog.wantsStandIn t = false := by
  obtain rfl : f = 12 := Option.some.inj ((show Tryz.prog.funcNamed "fairlead/fairleadlaw09.IpptOthers" = some 12 by kernel_rfl).symm.trans hf) |>.symm
  obtain rfl : fn = Tryz.f12 := (Option.some.inj (Tryz.func12.symm.trans hfn)).symm
  refine ⟨by kernel_rfl, fun j t ht => ?_⟩
  rw [Tryz.params12] at ht
  have hm := Array.mem_of_getElem? ht
  have hor : t = 73 ∨ t = 48 ∨ t = 23 ∨ t = 3 := by simpa using hm
  rcases hor with rfl | rfl | rfl | rfl
  · exact (show Tryz.prog.wantsStandIn 73 = false by kernel_rfl)
  · exact (show Tryz.prog.wantsStandIn 48 = false by kernel_rfl)
  · exact (show Tryz.prog.wantsStandIn 23 = false by kernel_rfl)
  · exact (show Tryz.prog.wantsStandIn 3 = false by kernel_rfl)
theorem proved : Rows.IpptOthersCardSaid :=
  Claim7.holds_tied_plain_at .later [] _ _ _ _ said (fun _ h => by cases h) (by kernel_rfl) (fun _ h => by cases h) ipptOthers_row_tie rfl ⟨rfl, rfl⟩ (by kernel_rfl) rfl plainParams (by kernel_rfl)
#print axioms proved
end Go.Proofs.YtlecbblmaadpiaaGreatDoor.ipptOthers
