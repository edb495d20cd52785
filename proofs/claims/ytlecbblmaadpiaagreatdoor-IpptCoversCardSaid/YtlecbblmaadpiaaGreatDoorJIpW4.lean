/- IpptCovers of layer 9's statements, walked. (Made by gen/IpW4.py, gen/bun.py.) -/
import Derived.Test.YtlecbblmaadpiaaGreatDoorJIpW3
namespace Go.Proofs.YtlecbblmaadpiaaGreatDoor
open Go.RowKit
theorem num_of_find {l : List Blk} {q : Nat} {x : Blk} (h : l.find? (pNum q) = some x) : x.num = q := by
  have := List.find?_some h
  unfold pNum at this
  simpa using this
theorem ipl_same {a b : Bun} {x y : Blk} {f : Nat} (wa : Wr a) (ba : BdP a) (wb : Wr b) (bb : BdP b) (hx : Bd x) (hy : Bd y) (hxd : x.dat.length < 18446744073709551616) (hyd : y.dat.length < 18446744073709551616) (hf : f < 18446744073709551616) (hn : x.num = y.num) :
    (iplB (primW a) 7 (some x) 11 9 0 == iplB (primW b) 7 (some y) 11 9 f) = decide (primW a = primW b ∧ x.typ = y.typ ∧ x.flg = y.flg ∧ x.dat = y.dat ∧ f = 0) := by
  rw [Bool.eq_iff_iff, beq_iff_eq, decide_eq_true_eq]
  constructor
  · intro h
    obtain ⟨e1, e2, -, e4, -, -, e7, e8⟩ := ipl_tells wa ba wb bb hx hy hxd hyd ⟨by decide, by decide, by decide⟩ ⟨by decide, by decide, hf⟩ h
    exact ⟨e1, e2, e4, e8, e7.symm⟩
  · rintro ⟨e1, e2, e4, e8, rfl⟩
    unfold iplB
    simp only [Option.isSome_some, e1, e2, e4, e8, hn]
theorem rows2 (w : World) (c1 c2 : Array Value) (t : TypeId) : (((w.alloc (.cells c1 t)).alloc (.cells c2 t)).drew.heap[w.heap.size]? = some (.cells c1 t (0, 0))) ∧ (((w.alloc (.cells c1 t)).alloc (.cells c2 t)).drew.heap[w.heap.size + 1]? = some (.cells c2 t (0, 0))) := by
  have h1 : (w.alloc (.cells c1 t)).heap.size = w.heap.size + 1 := by simp
  refine ⟨?_, ?_⟩
  · show ((w.alloc (.cells c1 t)).alloc (.cells c2 t)).heap[w.heap.size]? = _
    rw [Deep.blk_alloc_lt _ _ _ (by rw [h1]; exact Nat.lt_succ_self _)]
    exact heap_alloc_new w _
  · show ((w.alloc (.cells c1 t)).alloc (.cells c2 t)).heap[w.heap.size + 1]? = _
    rw [← h1]
    exact heap_alloc_new _ _
theorem BH.Bd.bdp {h : BH} (hd : h.Bd) (l : List Blk) : BdP (h.bun l) := ⟨hd.flg, hd.tim, hd.seq, hd.lif⟩
set_option maxRecDepth 100000 in
set_option maxHeartbeats 16000000 in
theorem ipptCovers_walk (h : BH) (l : List Blk) (A : Option Addr) (n c : Nat) (h' : BH) (l' : List Blk) (A' : Option Addr) (n' c' : Nat) (a1 a2 : Int) (w : World) (S : Snt) (hin : BunIn w h l A n c) (hin' : BunIn w h' l' A' n' c') (h1 : (Lit.int .u64 a1).wf = true) (h2 : (Lit.int .u64 a2).wf = true) (hS : Wd S w) :
    Calls Tryz.prog 11 #[bunV h A n c, bunV h' A' n' c', .int .u64 a1, .int .u64 a2] w fun e w' => e = .returned (.bool true) ∧ Below w.heap.size w w' := by
  obtain ⟨q, -, rfl⟩ := nat_u64 h1
  obtain ⟨f, hf, rfl⟩ := nat_u64 h2
  obtain ⟨hBd, hr, hc⟩ := hin
  obtain ⟨hBd', hr', hc'⟩ := hin'
  have HB0 := Lib.hid (((Below.refl w.heap.size w).alloc (Nat.le_refl _) (.cells #[.int .u64 (h.flg : Int), .int .i64 h.crc, .int .i64 h.dsc, .string h.dnm, .int .u64 (h.dn : Int), .int .u64 (h.dv : Int), .int .i64 h.ssc, .string h.snm, .int .u64 (h.sn : Int), .int .u64 (h.sv : Int), .int .i64 h.rsc, .string h.rnm, .int .u64 (h.rn : Int), .int .u64 (h.rv : Int), .int .u64 (h.tim : Int), .int .u64 (h.seq : Int), .int .u64 (h.lif : Int), .slice A n c] 73)).alloc (le_alloc _ _) (.cells #[.int .u64 (h'.flg : Int), .int .i64 h'.crc, .int .i64 h'.dsc, .string h'.dnm, .int .u64 (h'.dn : Int), .int .u64 (h'.dv : Int), .int .i64 h'.ssc, .string h'.snm, .int .u64 (h'.sn : Int), .int .u64 (h'.sv : Int), .int .i64 h'.rsc, .string h'.rnm, .int .u64 (h'.rn : Int), .int .u64 (h'.rv : Int), .int .u64 (h'.tim : Int), .int .u64 (h'.seq : Int), .int .u64 (h'.lif : Int), .slice A' n' c'] 73))
  have HW0 : Hid (Below (w.heap.size + 2) ((w.alloc (.cells #[.int .u64 (h.flg : Int), .int .i64 h.crc, .int .i64 h.dsc, .string h.dnm, .int .u64 (h.dn : Int), .int .u64 (h.dv : Int), .int .i64 h.ssc, .string h.snm, .int .u64 (h.sn : Int), .int .u64 (h.sv : Int), .int .i64 h.rsc, .string h.rnm, .int .u64 (h.rn : Int), .int .u64 (h.rv : Int), .int .u64 (h.tim : Int), .int .u64 (h.seq : Int), .int .u64 (h.lif : Int), .slice A n c] 73)).alloc (.cells #[.int .u64 (h'.flg : Int), .int .i64 h'.crc, .int .i64 h'.dsc, .string h'.dnm, .int .u64 (h'.dn : Int), .int .u64 (h'.dv : Int), .int .i64 h'.ssc, .string h'.snm, .int .u64 (h'.sn : Int), .int .u64 (h'.sv : Int), .int .i64 h'.rsc, .string h'.rnm, .int .u64 (h'.rn : Int), .int .u64 (h'.rv : Int), .int .u64 (h'.tim : Int), .int .u64 (h'.seq : Int), .int .u64 (h'.lif : Int), .slice A' n' c'] 73)) ((w.alloc (.cells #[.int .u64 (h.flg : Int), .int .i64 h.crc, .int .i64 h.dsc, .string h.dnm, .int .u64 (h.dn : Int), .int .u64 (h.dv : Int), .int .i64 h.ssc, .string h.snm, .int .u64 (h.sn : Int), .int .u64 (h.sv : Int), .int .i64 h.rsc, .string h.rnm, .int .u64 (h.rn : Int), .int .u64 (h.rv : Int), .int .u64 (h.tim : Int), .int .u64 (h.seq : Int), .int .u64 (h.lif : Int), .slice A n c] 73)).alloc (.cells #[.int .u64 (h'.flg : Int), .int .i64 h'.crc, .int .i64 h'.dsc, .string h'.dnm, .int .u64 (h'.dn : Int), .int .u64 (h'.dv : Int), .int .i64 h'.ssc, .string h'.snm, .int .u64 (h'.sn : Int), .int .u64 (h'.sv : Int), .int .i64 h'.rsc, .string h'.rnm, .int .u64 (h'.rn : Int), .int .u64 (h'.rv : Int), .int .u64 (h'.tim : Int), .int .u64 (h'.seq : Int), .int .u64 (h'.lif : Int), .slice A' n' c'] 73))) := Below.refl _ _
  have HS0 : Hid (((w.alloc (.cells #[.int .u64 (h.flg : Int), .int .i64 h.crc, .int .i64 h.dsc, .string h.dnm, .int .u64 (h.dn : Int), .int .u64 (h.dv : Int), .int .i64 h.ssc, .string h.snm, .int .u64 (h.sn : Int), .int .u64 (h.sv : Int), .int .i64 h.rsc, .string h.rnm, .int .u64 (h.rn : Int), .int .u64 (h.rv : Int), .int .u64 (h.tim : Int), .int .u64 (h.seq : Int), .int .u64 (h.lif : Int), .slice A n c] 73)).alloc (.cells #[.int .u64 (h'.flg : Int), .int .i64 h'.crc, .int .i64 h'.dsc, .string h'.dnm, .int .u64 (h'.dn : Int), .int .u64 (h'.dv : Int), .int .i64 h'.ssc, .string h'.snm, .int .u64 (h'.sn : Int), .int .u64 (h'.sv : Int), .int .i64 h'.rsc, .string h'.rnm, .int .u64 (h'.rn : Int), .int .u64 (h'.rv : Int), .int .u64 (h'.tim : Int), .int .u64 (h'.seq : Int), .int .u64 (h'.lif : Int), .slice A' n' c'] 73)).heap.size = w.heap.size + 2) := by show _ = _; simp
  have HX1 := Lib.hid (fun (W : World) (hb : Below (w.heap.size + 2) ((w.alloc (.cells #[.int .u64 (h.flg : Int), .int .i64 h.crc, .int .i64 h.dsc, .string h.dnm, .int .u64 (h.dn : Int), .int .u64 (h.dv : Int), .int .i64 h.ssc, .string h.snm, .int .u64 (h.sn : Int), .int .u64 (h.sv : Int), .int .i64 h.rsc, .string h.rnm, .int .u64 (h.rn : Int), .int .u64 (h.rv : Int), .int .u64 (h.tim : Int), .int .u64 (h.seq : Int), .int .u64 (h.lif : Int), .slice A n c] 73)).alloc (.cells #[.int .u64 (h'.flg : Int), .int .i64 h'.crc, .int .i64 h'.dsc, .string h'.dnm, .int .u64 (h'.dn : Int), .int .u64 (h'.dv : Int), .int .i64 h'.ssc, .string h'.snm, .int .u64 (h'.sn : Int), .int .u64 (h'.sv : Int), .int .i64 h'.rsc, .string h'.rnm, .int .u64 (h'.rn : Int), .int .u64 (h'.rv : Int), .int .u64 (h'.tim : Int), .int .u64 (h'.seq : Int), .int .u64 (h'.lif : Int), .slice A' n' c'] 73)) W) => (row_of_box (w := w) (g := w.heap.size) rfl (((Below.refl (w.heap.size + 1) (w.alloc (.cells #[.int .u64 (h.flg : Int), .int .i64 h.crc, .int .i64 h.dsc, .string h.dnm, .int .u64 (h.dn : Int), .int .u64 (h.dv : Int), .int .i64 h.ssc, .string h.snm, .int .u64 (h.sn : Int), .int .u64 (h.sv : Int), .int .i64 h.rsc, .string h.rnm, .int .u64 (h.rn : Int), .int .u64 (h.rv : Int), .int .u64 (h.tim : Int), .int .u64 (h.seq : Int), .int .u64 (h.lif : Int), .slice A n c] 73))).alloc (by simp) (.cells #[.int .u64 (h'.flg : Int), .int .i64 h'.crc, .int .i64 h'.dsc, .string h'.dnm, .int .u64 (h'.dn : Int), .int .u64 (h'.dv : Int), .int .i64 h'.ssc, .string h'.snm, .int .u64 (h'.sn : Int), .int .u64 (h'.sv : Int), .int .i64 h'.rsc, .string h'.rnm, .int .u64 (h'.rn : Int), .int .u64 (h'.rv : Int), .int .u64 (h'.tim : Int), .int .u64 (h'.seq : Int), .int .u64 (h'.lif : Int), .slice A' n' c'] 73)).trans (hb.mono (Nat.le_succ _)))))
  have HX2 := Lib.hid (fun (W : World) (hb : Below (w.heap.size + 2) ((w.alloc (.cells #[.int .u64 (h.flg : Int), .int .i64 h.crc, .int .i64 h.dsc, .string h.dnm, .int .u64 (h.dn : Int), .int .u64 (h.dv : Int), .int .i64 h.ssc, .string h.snm, .int .u64 (h.sn : Int), .int .u64 (h.sv : Int), .int .i64 h.rsc, .string h.rnm, .int .u64 (h.rn : Int), .int .u64 (h.rv : Int), .int .u64 (h.tim : Int), .int .u64 (h.seq : Int), .int .u64 (h.lif : Int), .slice A n c] 73)).alloc (.cells #[.int .u64 (h'.flg : Int), .int .i64 h'.crc, .int .i64 h'.dsc, .string h'.dnm, .int .u64 (h'.dn : Int), .int .u64 (h'.dv : Int), .int .i64 h'.ssc, .string h'.snm, .int .u64 (h'.sn : Int), .int .u64 (h'.sv : Int), .int .i64 h'.rsc, .string h'.rnm, .int .u64 (h'.rn : Int), .int .u64 (h'.rv : Int), .int .u64 (h'.tim : Int), .int .u64 (h'.seq : Int), .int .u64 (h'.lif : Int), .slice A' n' c'] 73)) W) => (row_of_box (w := (w.alloc (.cells #[.int .u64 (h.flg : Int), .int .i64 h.crc, .int .i64 h.dsc, .string h.dnm, .int .u64 (h.dn : Int), .int .u64 (h.dv : Int), .int .i64 h.ssc, .string h.snm, .int .u64 (h.sn : Int), .int .u64 (h.sv : Int), .int .i64 h.rsc, .string h.rnm, .int .u64 (h.rn : Int), .int .u64 (h.rv : Int), .int .u64 (h.tim : Int), .int .u64 (h.seq : Int), .int .u64 (h.lif : Int), .slice A n c] 73))) (g := w.heap.size + 1) (by simp) hb))
  have CH := Lib.hid (fun (W : World) (hb : Below w.heap.size w W) => heads09_any S W (hS.below hb (Nat.le_refl _)))
  have CF := Lib.hid (fun (W : World) (hb : Below w.heap.size w W) => few09_any h l A n c W.heap.size W ((hr.below hb).more hb.size) (Nat.le_refl _))
  have CF' := Lib.hid (fun (W : World) (hb : Below w.heap.size w W) => few09_any h' l' A' n' c' W.heap.size W ((hr'.below hb).more hb.size) (Nat.le_refl _))
  have CP := Lib.hid (fun (hdat : ∀ y ∈ l, y.dat.length ≤ 5000) (W : World) (hb : Below w.heap.size w W) => ipplain_any S h l A n c W.heap.size q ((7 : Nat) : Int) 11 9 0 W (hS.below hb (Nat.le_refl _)) hBd ((hr.below hb).more hb.size) (Nat.le_refl _) hc ⟨by decide, by decide, by decide⟩ hdat)
  have CP' := Lib.hid (fun (hdat : ∀ y ∈ l', y.dat.length ≤ 5000) (W : World) (hb : Below w.heap.size w W) => ipplain_any S h' l' A' n' c' W.heap.size q ((7 : Nat) : Int) 11 9 f W (hS.below hb (Nat.le_refl _)) hBd' ((hr'.below hb).more hb.size) (Nat.le_refl _) hc' ⟨by decide, by decide, hf⟩ hdat)
  have CR := Lib.hid (fun (W : World) (hb : Below w.heap.size w W) => rprimary_any h l A n c W.heap.size W hBd ((hr.below hb).more hb.size) (Nat.le_refl _))
  have CR' := Lib.hid (fun (W : World) (hb : Below w.heap.size w W) => rprimary_any h' l' A' n' c' W.heap.size W hBd' ((hr'.below hb).more hb.size) (Nat.le_refl _))
  have CI := Lib.hid (fun (W : World) (hb : Below w.heap.size w W) => rfindU_any h l A n c W.heap.size q W ((hr.below hb).more hb.size) (Nat.le_refl _))
  have CI' := Lib.hid (fun (W : World) (hb : Below w.heap.size w W) => rfindU_any h' l' A' n' c' W.heap.size q W ((hr'.below hb).more hb.size) (Nat.le_refl _))
  have HR := Lib.hid hr
  have HR' := Lib.hid hr'
  have HD := Lib.hid hBd
  have HD' := Lib.hid hBd'
  have HF := Lib.hid hf
  have ROWa := Lib.hid (HX1.out _ HW0.out)
  clear h1 h2 hf hBd hr hc hBd' hr' hc' hS
  unfold bunV at *
  go_enter Tryz.func11, Tryz.ntmps11
  go_wp2_with (first
    | (refine wpList_ld18 rfl (.tmp 4) rfl _ rfl _ _ ROWa.out rfl ?_)
    | fail)
  refine (CF.out _ HB0.out).mono ?_
  rintro e w1 ⟨R, rfl, hR, hb⟩
  have B1 := Lib.hid (Below.push HW0.out (Nat.le_of_eq HS0.out.symm) hb)
  have T1 := Lib.hid (HB0.out.trans (B1.out.mono (by omega)))
  have ROW1 := Lib.hid (HX1.out _ B1.out)
  have ROW1' := Lib.hid (HX2.out _ B1.out)
  have HRR := Lib.hid hR
  clear hb hR ROWa
  cases R with
  | false =>
    go_wp2_with fail
    refine (CH.out w1 T1.out).mono ?_
    rintro e wh ⟨rfl, hb2⟩
    have TH := Lib.hid (T1.out.trans (hb2.mono T1.out.size))
    clear hb2
    go_wp2_with fail
    go_ret
    exact ⟨rfl, TH.out⟩
  | true =>
  have HDT := Lib.hid (HRR.out rfl).2
  go_wp2_with (first
    | (refine wpList_ld18G (by rfl) (.tmp 5) rfl _ rfl _ _ ROW1'.out rfl ?_)
    | fail)
  refine (CF'.out w1 T1.out).mono ?_
  rintro e w2 ⟨R2, rfl, hR2, hb⟩
  have B2 := Lib.hid (B1.out.trans (hb.mono (by have := B1.out.size; have := HS0.out; omega)))
  have T2 := Lib.hid (HB0.out.trans (B2.out.mono (by omega)))
  have ROW2 := Lib.hid (HX1.out _ B2.out)
  have ROW2' := Lib.hid (HX2.out _ B2.out)
  have HRR2 := Lib.hid hR2
  clear hb hR2 ROW1 ROW1'
  cases R2 with
  | false =>
    go_wp2_with fail
    refine (CH.out w2 T2.out).mono ?_
    rintro e wh ⟨rfl, hb2⟩
    have TH := Lib.hid (T2.out.trans (hb2.mono T2.out.size))
    clear hb2
    go_wp2_with fail
    go_ret
    exact ⟨rfl, TH.out⟩
  | true =>
  have HDT' := Lib.hid (HRR2.out rfl).2
  by_cases hq : q = 0
  · have tq : ((q : Int) == 0) = true := by simp [hq]
    clear hq
    go_wp2_with fail
    refine (CH.out w2 T2.out).mono ?_
    rintro e wh ⟨rfl, hb2⟩
    have TH := Lib.hid (T2.out.trans (hb2.mono T2.out.size))
    clear hb2
    go_wp2_with fail
    go_ret
    exact ⟨rfl, TH.out⟩
  have tq : ((q : Int) == 0) = false := by simp [hq]
  obtain ⟨IP, hIP⟩ : ∃ IP, IP = iplU (h.bun l) q ((7 : Nat) : Int) 11 9 0 := ⟨_, rfl⟩
  obtain ⟨IQ, hIQ⟩ : ∃ IQ, IQ = iplU (h'.bun l') q ((7 : Nat) : Int) 11 9 f := ⟨_, rfl⟩
  rw [← hIP] at CP
  rw [← hIQ] at CP'
  have HOK : Hid (IP.2 = 0 → cauU (h.bun l) = 0 ∧ ∃ x, l.find? (pNum q) = some x ∧ x.typ ≠ 11 ∧ IP.1 = iplB (primW (h.bun l)) 7 (some x) 11 9 0) := fun h0 => by
    rw [hIP] at h0 ⊢
    exact iplU_ok (by decide) hq h0
  have HOK' : Hid (IQ.2 = 0 → cauU (h'.bun l') = 0 ∧ ∃ x, l'.find? (pNum q) = some x ∧ x.typ ≠ 11 ∧ IQ.1 = iplB (primW (h'.bun l')) 7 (some x) 11 9 f) := fun h0 => by
    rw [hIQ] at h0 ⊢
    exact iplU_ok (by decide) hq h0
  obtain ⟨L, z⟩ := IP
  obtain ⟨L', z'⟩ := IQ
  clear hIP hIQ hq
  go_wp2_with (first
    | (refine wpList_ld18 rfl (.tmp 4) rfl _ rfl _ _ ROW2.out rfl ?_)
    | fail)
  refine (CP.out HDT.out w2 T2.out).mono ?_
  rintro e w3 ⟨hb, A3, n3, c3, rfl, hc3, hr3⟩
  have B3 := Lib.hid (B2.out.trans (hb.mono (by have := B2.out.size; have := HS0.out; omega)))
  have T3 := Lib.hid (HB0.out.trans (B3.out.mono (by omega)))
  have ROW3 := Lib.hid (HX1.out _ B3.out)
  have ROW3' := Lib.hid (HX2.out _ B3.out)
  have R33 := Lib.hid hr3
  clear hb hr3 hc3 ROW2 ROW2' tq
  go_wp2_with (first
    | (refine wpList_ld18 rfl (.tmp 5) rfl _ rfl _ _ ROW3'.out rfl ?_)
    | fail)
  refine (CP'.out HDT'.out w3 T3.out).mono ?_
  rintro e w4 ⟨hb, A4, n4, c4, rfl, hc4, hr4⟩
  have B4 := Lib.hid (B3.out.trans (hb.mono (by have := B3.out.size; have := HS0.out; omega)))
  have T4 := Lib.hid (HB0.out.trans (B4.out.mono (by omega)))
  have ROW4 := Lib.hid (HX1.out _ B4.out)
  have ROW4' := Lib.hid (HX2.out _ B4.out)
  have R34 := Lib.hid ((R33.out.below hb).more hb.size)
  have R44 := Lib.hid hr4
  clear hb hr4 hc4 ROW3 ROW3' R33
  by_cases hz : z = 0
  case neg =>
    have hz1 : (z != 0) = true := by simp [hz]
    clear hz
    go_wp2_with fail
    refine (CH.out w4 T4.out).mono ?_
    rintro e wh ⟨rfl, hb2⟩
    have TH := Lib.hid (T4.out.trans (hb2.mono T4.out.size))
    clear hb2
    go_wp2_with fail
    go_ret
    exact ⟨rfl, TH.out⟩
  by_cases hz' : z' = 0
  case neg =>
    have hz1 : (z != 0) = false := by simp [hz]
    have hz2 : (z' != 0) = true := by simp [hz']
    clear hz hz'
    go_wp2_with fail
    refine (CH.out w4 T4.out).mono ?_
    rintro e wh ⟨rfl, hb2⟩
    have TH := Lib.hid (T4.out.trans (hb2.mono T4.out.size))
    clear hb2
    go_wp2_with fail
    go_ret
    exact ⟨rfl, TH.out⟩
  subst hz hz'
  obtain ⟨hcz, x, hfx, -, hL⟩ := HOK.out rfl
  obtain ⟨hcz', y, hfy, -, hL'⟩ := HOK'.out rfl
  rw [if_pos hcz, hcz] at CR
  rw [if_pos hcz', hcz'] at CR'
  rcases plc_find (pNum q) l 0 with ⟨-, hno⟩ | ⟨k, hk, hp, hfk⟩
  · rw [hno] at hfx; cases hfx
  rcases plc_find (pNum q) l' 0 with ⟨-, hno⟩ | ⟨k', hk', hp', hfk'⟩
  · rw [hno] at hfy; cases hfy
  have hnum : x.num = y.num := by rw [num_of_find hfx, num_of_find hfy]
  rw [hfk] at hfx
  injection hfx with hfx
  rw [hfk'] at hfy
  injection hfy with hfy
  rw [Nat.zero_add] at hp hp'
  rw [hp] at CI
  rw [hp'] at CI'
  have hkn : k < n := by rw [← HR.out.1]; exact hk
  have hkn' : k' < n' := by rw [← HR'.out.1]; exact hk'
  have hk1 : (k : Int) < (n : Int) := by omega
  have hk1' : (k' : Int) < (n' : Int) := by omega
  have hk0 : decide ((k : Int) < 0) = false := decide_eq_false (by omega)
  have hk0' : decide ((k' : Int) < 0) = false := decide_eq_false (by omega)
  obtain ⟨b, o, rfl, hbB, hks⟩ := HR.out.2.1 (by omega)
  obtain ⟨b', o', rfl, hbB', hks'⟩ := HR'.out.2.1 (by omega)
  obtain ⟨Ax, nd, cd, hkk⟩ := hks.get k hk
  obtain ⟨Ay, nd', cd', hkk'⟩ := hks'.get k' hk'
  rw [hfx] at hkk
  rw [hfy] at hkk'
  have HKK := Lib.hid hkk
  have HKK' := Lib.hid hkk'
  have HBL := Lib.hid hbB
  have HBL' := Lib.hid hbB'
  have hX5 : x.dat.length ≤ 5000 := HDT.out x (by rw [← hfx]; exact List.getElem_mem hk)
  have hY5 : y.dat.length ≤ 5000 := HDT'.out y (by rw [← hfy]; exact List.getElem_mem hk')
  have HEQ : Hid ((L == L') = decide (primW (h.bun l) = primW (h'.bun l') ∧ x.typ = y.typ ∧ x.flg = y.flg ∧ x.dat = y.dat ∧ f = 0)) := by
    have e1 : L = iplB (primW (h.bun l)) 7 (some x) 11 9 0 := hL
    have e2 : L' = iplB (primW (h'.bun l')) 7 (some y) 11 9 f := hL'
    show _ = _
    rw [e1, e2]
    exact ipl_same (primOk_iff.1 (cauU_0.1 hcz).2.1).1 (HD.out.bdp l) (primOk_iff.1 (cauU_0.1 hcz').2.1).1 (HD'.out.bdp l') hkk.bd hkk'.bd (by omega) (by omega) HF.out hnum
  generalize primW (h.bun l) = PA at *
  generalize primW (h'.bun l') = PB at *
  clear hks hks' hkk hkk' hbB hbB' hp hp' hfk hfk' hfx hfy hcz hcz' hL hL' hk hk' HOK HOK' hnum hX5 hY5 HD HD' hkn hkn'
  go_wp2_with (first
    | (refine wpList_ld18 rfl (.tmp 4) rfl _ rfl _ _ ROW4.out rfl ?_)
    | fail)
  refine (CR.out w4 T4.out).mono ?_
  rintro e w5 ⟨hb, A5, n5, c5, rfl, hc5, hr5⟩
  have B5 := Lib.hid (B4.out.trans (hb.mono (by have := B4.out.size; have := HS0.out; omega)))
  have T5 := Lib.hid (HB0.out.trans (B5.out.mono (by omega)))
  have ROW5 := Lib.hid (HX1.out _ B5.out)
  have ROW5' := Lib.hid (HX2.out _ B5.out)
  have R35 := Lib.hid ((R34.out.below hb).more hb.size)
  have R45 := Lib.hid ((R44.out.below hb).more hb.size)
  have R55 := Lib.hid hr5
  clear hb hr5 hc5 ROW4 ROW4' R34 R44
  go_wp2_with (first
    | (refine wpList_ld18 rfl (.tmp 5) rfl _ rfl _ _ ROW5'.out rfl ?_)
    | fail)
  refine (CR'.out w5 T5.out).mono ?_
  rintro e w6 ⟨hb, A6, n6, c6, rfl, hc6, hr6⟩
  have B6 := Lib.hid (B5.out.trans (hb.mono (by have := B5.out.size; have := HS0.out; omega)))
  have T6 := Lib.hid (HB0.out.trans (B6.out.mono (by omega)))
  have ROW6 := Lib.hid (HX1.out _ B6.out)
  have ROW6' := Lib.hid (HX2.out _ B6.out)
  have R36 := Lib.hid ((R35.out.below hb).more hb.size)
  have R46 := Lib.hid ((R45.out.below hb).more hb.size)
  have R56 := Lib.hid ((R55.out.below hb).more hb.size)
  have R66 := Lib.hid hr6
  clear hb hr6 hc6 ROW5 ROW5' R35 R45 R55 CP CP' CR CR' CF CF'
  go_upto_region 9 with fail
  go_cut [17, 18] (fun u v wx => u = .int .i64 (k : Int) ∧ v = .int .i64 (k' : Int) ∧ Hid (Below w6.heap.size w6 wx))
  case first =>
    go_wp2_with fail
    refine wp_region_held_drew (S := fun W => Below w6.heap.size w6 W) (by kernel_rfl) Below.drew_ (fun hHeld => ?_)
    have BC := Lib.hid hHeld
    refine takeR (i := 0) rfl (by kernel_rfl) (by kernel_rfl) (by kernel_rfl) (fun _ _ _ h => h) (by rfl) (fun W hW => exec_ld18 rfl rfl (HX1.out W (B6.out.trans (hW.mono (Nat.le_trans (Nat.le_of_eq HS0.out.symm) B6.out.size)))) rfl) (by assumption) ?_
    try simp only [Act.put]
    try simp only [List.setIfInBounds_toArray]
    try simp only [List.set_cons_succ]
    try simp only [List.set_cons_zero]
    refine takeR (i := 1) (v := ?v1_1) rfl (by kernel_rfl) (by kernel_rfl) (by kernel_rfl) (fun _ _ _ h => h) (by rfl) ?hy1_1 (by assumption) ?rest1_1
    case hy1_1 => (intro W hSw; go_simp; try with_reducible rfl)
    try simp only [Act.put]
    try simp only [List.setIfInBounds_toArray]
    try simp only [List.set_cons_succ]
    try simp only [List.set_cons_zero]
    refine takeR (i := 3) rfl (by kernel_rfl) (by kernel_rfl) (by kernel_rfl) (fun _ _ _ h => h) (by rfl) (fun W hW => exec_ld18 rfl rfl (HX2.out W (B6.out.trans (hW.mono (Nat.le_trans (Nat.le_of_eq HS0.out.symm) B6.out.size)))) rfl) (by assumption) ?_
    try simp only [Act.put]
    try simp only [List.setIfInBounds_toArray]
    try simp only [List.set_cons_succ]
    try simp only [List.set_cons_zero]
    refine takeR (i := 4) (v := ?v4_2) rfl (by kernel_rfl) (by kernel_rfl) (by kernel_rfl) (fun _ _ _ h => h) (by rfl) ?hy4_2 (by assumption) ?rest4_2
    case hy4_2 => (intro W hSw; go_simp; try with_reducible rfl)
    try simp only [Act.put]
    try simp only [List.setIfInBounds_toArray]
    try simp only [List.set_cons_succ]
    try simp only [List.set_cons_zero]
    refine wpAnyH_ready (rs := [2]) (by kernel_rfl) (by simp) ?_
    refine AllReadyH.cons rfl (fun K hK => ?_) AllReadyH.nil
    rw [if_pos (by rfl)]
    go_simp
    refine (CI.out _ (T6.out.trans (BC.out.mono T6.out.size))).mono ?_
    rintro e wh ⟨rfl, hb⟩
    replace BC := Lib.hid (BC.out.trans (hb.mono BC.out.size))
    clear hb
    go_simp
    refine hK.out _ _ (BC.out) (fun hHeld => ?_)
    try simp only [Act.put]
    try simp only [List.setIfInBounds_toArray]
    try simp only [List.set_cons_succ]
    try simp only [List.set_cons_zero]
    clear hK K
    refine wpAnyH_ready (rs := [5]) (by kernel_rfl) (by simp) ?_
    refine AllReadyH.cons rfl (fun K hK => ?_) AllReadyH.nil
    rw [if_pos (by rfl)]
    go_simp
    refine (CI'.out _ (T6.out.trans (BC.out.mono T6.out.size))).mono ?_
    rintro e wh ⟨rfl, hb⟩
    replace BC := Lib.hid (BC.out.trans (hb.mono BC.out.size))
    clear hb
    go_simp
    refine hK.out _ _ (BC.out) (fun hHeld => ?_)
    try simp only [Act.put]
    try simp only [List.setIfInBounds_toArray]
    try simp only [List.set_cons_succ]
    try simp only [List.set_cons_zero]
    clear hK K
    refine takeR (i := 6) (v := ?v6_3) rfl (by kernel_rfl) (by kernel_rfl) (by kernel_rfl) (fun _ _ _ h => h) (by rfl) ?hy6_3 (by assumption) ?rest6_3
    case hy6_3 => (intro W hSw; go_simp; try with_reducible rfl)
    try simp only [Act.put]
    try simp only [List.setIfInBounds_toArray]
    try simp only [List.set_cons_succ]
    try simp only [List.set_cons_zero]
    refine takeR (i := 7) (v := ?v7_4) rfl (by kernel_rfl) (by kernel_rfl) (by kernel_rfl) (fun _ _ _ h => h) (by rfl) ?hy7_4 (by assumption) ?rest7_4
    case hy7_4 => (intro W hSw; go_simp; try with_reducible rfl)
    try simp only [Act.put]
    try simp only [List.setIfInBounds_toArray]
    try simp only [List.set_cons_succ]
    try simp only [List.set_cons_zero]
    refine wpAnyH_done (by kernel_rfl) ?_ _
    go_wp2_with fail
    go_meet
    exact ⟨rfl, rfl, BC.out⟩
  case rest =>
    obtain ⟨rfl, rfl, D7⟩ := hcut
    obtain ⟨w7, hw⟩ : ∃ w', w' = wc := ⟨_, rfl⟩
    subst hw
    have B7 := Lib.hid (B6.out.trans (D7.out.mono (Nat.le_trans (Nat.le_of_eq HS0.out.symm) B6.out.size)))
    have T7 := Lib.hid (HB0.out.trans (B7.out.mono (by omega)))
    have R37 := Lib.hid ((R36.out.below D7.out).more D7.out.size)
    have R47 := Lib.hid ((R46.out.below D7.out).more D7.out.size)
    have R57 := Lib.hid ((R56.out.below D7.out).more D7.out.size)
    have R67 := Lib.hid ((R66.out.below D7.out).more D7.out.size)
    clear D7 R36 R46 R56 R66 CI CI' ROW6 ROW6'
    go_upto_region 12 with fail
    go_cut [19, 20] (fun u v wx => Hid (∃ gx gy : Nat, u = .pointer (some ⟨gx, 0, none⟩) ∧ v = .pointer (some ⟨gy, 0, none⟩) ∧ wx.heap[gx]? = some (.cells #[.int .u64 (x.typ : Int), .int .u64 (x.num : Int), .int .u64 (x.flg : Int), .int .i64 x.crc, .slice Ax nd cd] 48 (0, 0)) ∧ wx.heap[gy]? = some (.cells #[.int .u64 (y.typ : Int), .int .u64 (y.num : Int), .int .u64 (y.flg : Int), .int .i64 y.crc, .slice Ay nd' cd'] 48 (0, 0)) ∧ Below w7.heap.size w7 wx))
    case first =>
      go_wp2_with fail
      refine wp_region_held_drew (S := fun W => Below w7.heap.size w7 W) (by kernel_rfl) Below.drew_ (fun hHeld => ?_)
      have BC := Lib.hid hHeld
      refine takeR (i := 0) (v := ?v0_5) rfl (by kernel_rfl) (by kernel_rfl) (by kernel_rfl) (fun _ _ _ h => h) (by rfl) ?hy0_5 (by assumption) ?rest0_5
      case hy0_5 => (intro W hSw; go_simp; try with_reducible rfl)
      try simp only [Act.put]
      try simp only [List.setIfInBounds_toArray]
      try simp only [List.set_cons_succ]
      try simp only [List.set_cons_zero]
      refine takeR (i := 1) (v := ?v1_6) rfl (by kernel_rfl) (by kernel_rfl) (by kernel_rfl) (fun _ _ _ h => h) (by rfl) ?hy1_6 (by assumption) ?rest1_6
      case hy1_6 => (intro W hSw; have x17 := cell_row (HX1.out W (B7.out.trans (hSw.mono (Nat.le_trans (Nat.le_of_eq HS0.out.symm) B7.out.size)))) 17 rfl; go_simp; try with_reducible rfl)
      try simp only [Act.put]
      try simp only [List.setIfInBounds_toArray]
      try simp only [List.set_cons_succ]
      try simp only [List.set_cons_zero]
      refine takeR (i := 2) (v := ?v2_7) rfl (by kernel_rfl) (by kernel_rfl) (by kernel_rfl) (fun _ _ _ h => h) (by rfl) ?hy2_7 (by assumption) ?rest2_7
      case hy2_7 => (intro W hSw; go_simp; try with_reducible rfl)
      try simp only [Act.put]
      try simp only [List.setIfInBounds_toArray]
      try simp only [List.set_cons_succ]
      try simp only [List.set_cons_zero]
      refine takeR (i := 3) (v := ?v3_8) rfl (by kernel_rfl) (by kernel_rfl) (by kernel_rfl) (fun _ _ _ h => h) (by rfl) ?hy3_8 (by assumption) ?rest3_8
      case hy3_8 => (intro W hSw; go_simp; try with_reducible rfl)
      try simp only [Act.put]
      try simp only [List.setIfInBounds_toArray]
      try simp only [List.set_cons_succ]
      try simp only [List.set_cons_zero]
      refine takeR (i := 4) (v := ?v4_9) rfl (by kernel_rfl) (by kernel_rfl) (by kernel_rfl) (fun _ _ _ h => h) (by rfl) ?hy4_9 (by assumption) ?rest4_9
      case hy4_9 => (intro W hSw; have hKK := HKK.out.below ((T7.out.trans (hSw.mono T7.out.size))) HBL.out; have g0 := hKK.k0; have g1 := hKK.k1; have g2 := hKK.k2; have g3 := hKK.k3; have g4 := hKK.k4; clear hKK; go_simp; try with_reducible rfl)
      try simp only [Act.put]
      try simp only [List.setIfInBounds_toArray]
      try simp only [List.set_cons_succ]
      try simp only [List.set_cons_zero]
      refine takeR (i := 5) (v := ?v5_10) rfl (by kernel_rfl) (by kernel_rfl) (by kernel_rfl) (fun _ _ _ h => h) (by rfl) ?hy5_10 (by assumption) ?rest5_10
      case hy5_10 => (intro W hSw; go_simp; try with_reducible rfl)
      try simp only [Act.put]
      try simp only [List.setIfInBounds_toArray]
      try simp only [List.set_cons_succ]
      try simp only [List.set_cons_zero]
      refine takeR (i := 6) (v := ?v6_11) rfl (by kernel_rfl) (by kernel_rfl) (by kernel_rfl) (fun _ _ _ h => h) (by rfl) ?hy6_11 (by assumption) ?rest6_11
      case hy6_11 => (intro W hSw; have x17 := cell_row (HX2.out W (B7.out.trans (hSw.mono (Nat.le_trans (Nat.le_of_eq HS0.out.symm) B7.out.size)))) 17 rfl; go_simp; try with_reducible rfl)
      try simp only [Act.put]
      try simp only [List.setIfInBounds_toArray]
      try simp only [List.set_cons_succ]
      try simp only [List.set_cons_zero]
      refine takeR (i := 7) (v := ?v7_12) rfl (by kernel_rfl) (by kernel_rfl) (by kernel_rfl) (fun _ _ _ h => h) (by rfl) ?hy7_12 (by assumption) ?rest7_12
      case hy7_12 => (intro W hSw; go_simp; try with_reducible rfl)
      try simp only [Act.put]
      try simp only [List.setIfInBounds_toArray]
      try simp only [List.set_cons_succ]
      try simp only [List.set_cons_zero]
      refine takeR (i := 8) (v := ?v8_13) rfl (by kernel_rfl) (by kernel_rfl) (by kernel_rfl) (fun _ _ _ h => h) (by rfl) ?hy8_13 (by assumption) ?rest8_13
      case hy8_13 => (intro W hSw; go_simp; try with_reducible rfl)
      try simp only [Act.put]
      try simp only [List.setIfInBounds_toArray]
      try simp only [List.set_cons_succ]
      try simp only [List.set_cons_zero]
      refine takeR (i := 9) (v := ?v9_14) rfl (by kernel_rfl) (by kernel_rfl) (by kernel_rfl) (fun _ _ _ h => h) (by rfl) ?hy9_14 (by assumption) ?rest9_14
      case hy9_14 => (intro W hSw; have hKK := HKK'.out.below ((T7.out.trans (hSw.mono T7.out.size))) HBL'.out; have g0 := hKK.k0; have g1 := hKK.k1; have g2 := hKK.k2; have g3 := hKK.k3; have g4 := hKK.k4; clear hKK; go_simp; try with_reducible rfl)
      try simp only [Act.put]
      try simp only [List.setIfInBounds_toArray]
      try simp only [List.set_cons_succ]
      try simp only [List.set_cons_zero]
      refine wpAnyH_ready (rs := [10, 11]) (by kernel_rfl) (by simp) ?_
      refine AllReadyH.cons rfl (fun K hK => ?_) ?_
      · skip
        rw [if_pos (by rfl)]
        go_simp
        replace BC := Lib.hid (BC.out.alloc BC.out.size (.cells #[.int .u64 0, .int .u64 0, .int .u64 0, .int .i64 0, .slice none 0 0] 48))
        refine hK.out _ _ (BC.out) (fun hHeld => ?_)
        try simp only [Act.put]
        try simp only [List.setIfInBounds_toArray]
        try simp only [List.set_cons_succ]
        try simp only [List.set_cons_zero]
        clear hK K
        refine wpAnyH_ready (rs := [11]) (by kernel_rfl) (by simp) ?_
        refine AllReadyH.cons rfl (fun K hK => ?_) AllReadyH.nil
        rw [if_pos (by rfl)]
        go_simp
        replace BC := Lib.hid (BC.out.alloc BC.out.size (.cells #[.int .u64 0, .int .u64 0, .int .u64 0, .int .i64 0, .slice none 0 0] 48))
        refine hK.out _ _ (BC.out) (fun hHeld => ?_)
        try simp only [Act.put]
        try simp only [List.setIfInBounds_toArray]
        try simp only [List.set_cons_succ]
        try simp only [List.set_cons_zero]
        clear hK K
        refine wpAnyH_ready (rs := [12]) (by kernel_rfl) (by simp) ?_
        refine AllReadyH.cons rfl (fun K hK => ?_) AllReadyH.nil
        rw [if_pos (by rfl)]
        go_simp
        clear BC
        have BC := Lib.hid (((((Below.refl w7.heap.size w7).alloc (Nat.le_refl _) (.cells #[.int .u64 (x.typ : Int), .int .u64 (x.num : Int), .int .u64 (x.flg : Int), .int .i64 x.crc, .slice Ax nd cd] 48)).alloc (le_alloc _ _) (.cells #[.int .u64 0, .int .u64 0, .int .u64 0, .int .i64 0, .slice none 0 0] 48)).drew))
        refine hK.out _ _ (BC.out) (fun hHeld => ?_)
        try simp only [Act.put]
        try simp only [List.setIfInBounds_toArray]
        try simp only [List.set_cons_succ]
        try simp only [List.set_cons_zero]
        clear hK K
        refine wpAnyH_ready (rs := [13]) (by kernel_rfl) (by simp) ?_
        refine AllReadyH.cons rfl (fun K hK => ?_) AllReadyH.nil
        rw [if_pos (by rfl)]
        go_simp
        clear BC
        have BC := Lib.hid (((((Below.refl w7.heap.size w7).alloc (Nat.le_refl _) (.cells #[.int .u64 (x.typ : Int), .int .u64 (x.num : Int), .int .u64 (x.flg : Int), .int .i64 x.crc, .slice Ax nd cd] 48)).alloc (le_alloc _ _) (.cells #[.int .u64 (y.typ : Int), .int .u64 (y.num : Int), .int .u64 (y.flg : Int), .int .i64 y.crc, .slice Ay nd' cd'] 48)).drew))
        refine hK.out _ _ (BC.out) (fun hHeld => ?_)
        try simp only [Act.put]
        try simp only [List.setIfInBounds_toArray]
        try simp only [List.set_cons_succ]
        try simp only [List.set_cons_zero]
        clear hK K
        refine wpAnyH_done (by kernel_rfl) ?_ _
        go_wp2_with fail
        go_meet
        exact ⟨w7.heap.size, w7.heap.size + 1, rfl, rfl, (rows2 w7 #[.int .u64 (x.typ : Int), .int .u64 (x.num : Int), .int .u64 (x.flg : Int), .int .i64 x.crc, .slice Ax nd cd] #[.int .u64 (y.typ : Int), .int .u64 (y.num : Int), .int .u64 (y.flg : Int), .int .i64 y.crc, .slice Ay nd' cd'] _).1, (rows2 w7 #[.int .u64 (x.typ : Int), .int .u64 (x.num : Int), .int .u64 (x.flg : Int), .int .i64 x.crc, .slice Ax nd cd] #[.int .u64 (y.typ : Int), .int .u64 (y.num : Int), .int .u64 (y.flg : Int), .int .i64 y.crc, .slice Ay nd' cd'] _).2, BC.out⟩
      refine AllReadyH.cons rfl (fun K hK => ?_) AllReadyH.nil
      · skip
        rw [if_pos (by rfl)]
        go_simp
        replace BC := Lib.hid (BC.out.alloc BC.out.size (.cells #[.int .u64 0, .int .u64 0, .int .u64 0, .int .i64 0, .slice none 0 0] 48))
        refine hK.out _ _ (BC.out) (fun hHeld => ?_)
        try simp only [Act.put]
        try simp only [List.setIfInBounds_toArray]
        try simp only [List.set_cons_succ]
        try simp only [List.set_cons_zero]
        clear hK K
        refine wpAnyH_ready (rs := [10]) (by kernel_rfl) (by simp) ?_
        refine AllReadyH.cons rfl (fun K hK => ?_) AllReadyH.nil
        rw [if_pos (by rfl)]
        go_simp
        replace BC := Lib.hid (BC.out.alloc BC.out.size (.cells #[.int .u64 0, .int .u64 0, .int .u64 0, .int .i64 0, .slice none 0 0] 48))
        refine hK.out _ _ (BC.out) (fun hHeld => ?_)
        try simp only [Act.put]
        try simp only [List.setIfInBounds_toArray]
        try simp only [List.set_cons_succ]
        try simp only [List.set_cons_zero]
        clear hK K
        refine wpAnyH_ready (rs := [12]) (by kernel_rfl) (by simp) ?_
        refine AllReadyH.cons rfl (fun K hK => ?_) AllReadyH.nil
        rw [if_pos (by rfl)]
        go_simp
        clear BC
        have BC := Lib.hid (((((Below.refl w7.heap.size w7).alloc (Nat.le_refl _) (.cells #[.int .u64 0, .int .u64 0, .int .u64 0, .int .i64 0, .slice none 0 0] 48)).alloc (le_alloc _ _) (.cells #[.int .u64 (x.typ : Int), .int .u64 (x.num : Int), .int .u64 (x.flg : Int), .int .i64 x.crc, .slice Ax nd cd] 48)).drew))
        refine hK.out _ _ (BC.out) (fun hHeld => ?_)
        try simp only [Act.put]
        try simp only [List.setIfInBounds_toArray]
        try simp only [List.set_cons_succ]
        try simp only [List.set_cons_zero]
        clear hK K
        refine wpAnyH_ready (rs := [13]) (by kernel_rfl) (by simp) ?_
        refine AllReadyH.cons rfl (fun K hK => ?_) AllReadyH.nil
        rw [if_pos (by rfl)]
        go_simp
        clear BC
        have BC := Lib.hid (((((Below.refl w7.heap.size w7).alloc (Nat.le_refl _) (.cells #[.int .u64 (y.typ : Int), .int .u64 (y.num : Int), .int .u64 (y.flg : Int), .int .i64 y.crc, .slice Ay nd' cd'] 48)).alloc (le_alloc _ _) (.cells #[.int .u64 (x.typ : Int), .int .u64 (x.num : Int), .int .u64 (x.flg : Int), .int .i64 x.crc, .slice Ax nd cd] 48)).drew))
        refine hK.out _ _ (BC.out) (fun hHeld => ?_)
        try simp only [Act.put]
        try simp only [List.setIfInBounds_toArray]
        try simp only [List.set_cons_succ]
        try simp only [List.set_cons_zero]
        clear hK K
        refine wpAnyH_done (by kernel_rfl) ?_ _
        go_wp2_with fail
        go_meet
        exact ⟨w7.heap.size + 1, w7.heap.size, rfl, rfl, (rows2 w7 #[.int .u64 (y.typ : Int), .int .u64 (y.num : Int), .int .u64 (y.flg : Int), .int .i64 y.crc, .slice Ay nd' cd'] #[.int .u64 (x.typ : Int), .int .u64 (x.num : Int), .int .u64 (x.flg : Int), .int .i64 x.crc, .slice Ax nd cd] _).2, (rows2 w7 #[.int .u64 (y.typ : Int), .int .u64 (y.num : Int), .int .u64 (y.flg : Int), .int .i64 y.crc, .slice Ay nd' cd'] #[.int .u64 (x.typ : Int), .int .u64 (x.num : Int), .int .u64 (x.flg : Int), .int .i64 x.crc, .slice Ax nd cd] _).1, BC.out⟩
    case rest =>
      obtain ⟨gx, gy, rfl, rfl, hrx, hry, hb⟩ := hcut.out
      clear hcut
      obtain ⟨w8, hw⟩ : ∃ w', w' = wc := ⟨_, rfl⟩
      subst hw
      have T8 := Lib.hid (T7.out.trans (hb.mono T7.out.size))
      have R38 := Lib.hid ((R37.out.below hb).more hb.size)
      have R48 := Lib.hid ((R47.out.below hb).more hb.size)
      have R58 := Lib.hid ((R57.out.below hb).more hb.size)
      have R68 := Lib.hid ((R67.out.below hb).more hb.size)
      have RX8 := Lib.hid ((HKK.out.below T8.out HBL.out).rd)
      have RY8 := Lib.hid ((HKK'.out.below T8.out HBL'.out).rd)
      have x0 := cell_row hrx 0 rfl
      have x2 := cell_row hrx 2 rfl
      have x4 := cell_row hrx 4 rfl
      have y0 := cell_row hry 0 rfl
      have y2 := cell_row hry 2 rfl
      have y4 := cell_row hry 4 rfl
      clear hrx hry hb R37 R47 R57 R67
      obtain ⟨SB, hSB⟩ : ∃ SB, SB = decide (PA = PB ∧ x.typ = y.typ ∧ x.flg = y.flg ∧ x.dat = y.dat ∧ f = 0) := ⟨_, rfl⟩
      rw [← hSB] at HEQ
      have HSB := Lib.hid hSB
      have CS1 := Lib.hid (same_any A5 A6 n5 c5 n6 c6 _ _ PA PB w8 R58.out R68.out)
      have CS2 := Lib.hid (same_any Ax Ay nd cd nd' cd' _ _ x.dat y.dat w8 RX8.out RY8.out)
      have CS3 := Lib.hid (same_any A3 A4 n3 c3 n4 c4 _ _ L L' w8 R38.out R48.out)
      rw [HEQ.out] at CS3
      clear hSB
      go_upto_region 13 with fail
      go_cut [21] (fun v wx => v = .bool SB ∧ w8 = wx)
      case first =>
        by_cases e0 : PA = PB
        case neg =>
          obtain rfl : SB = false := by rw [HSB.out]; exact decide_eq_false fun hh => e0 hh.1
          have t0 : (PA == PB) = false := by simpa using e0
          rw [t0] at CS1
          clear t0
          clear e0
          go_wp2_with fail
          refine CS1.out.mono ?_
          rintro e w9 ⟨rfl, rfl⟩
          go_wp2_with fail
          go_meet
          exact ⟨rfl, rfl⟩
        have t0 : (PA == PB) = true := by rw [e0]; simp
        rw [t0] at CS1
        clear t0
        by_cases e1 : x.typ = y.typ
        case neg =>
          obtain rfl : SB = false := by rw [HSB.out]; exact decide_eq_false fun hh => e1 hh.2.1
          have t1 : ((x.typ : Int) == (y.typ : Int)) = false := by rw [beq_eq_false_iff_ne]; omega
          clear e0 e1
          go_wp2_with fail
          refine CS1.out.mono ?_
          rintro e w9 ⟨rfl, rfl⟩
          go_wp2_with fail
          go_meet
          exact ⟨rfl, rfl⟩
        have t1 : ((x.typ : Int) == (y.typ : Int)) = true := by rw [e1]; simp
        by_cases e2 : x.flg = y.flg
        case neg =>
          obtain rfl : SB = false := by rw [HSB.out]; exact decide_eq_false fun hh => e2 hh.2.2.1
          have t2 : ((x.flg : Int) == (y.flg : Int)) = false := by rw [beq_eq_false_iff_ne]; omega
          clear e0 e1 e2
          go_wp2_with fail
          refine CS1.out.mono ?_
          rintro e w9 ⟨rfl, rfl⟩
          go_wp2_with fail
          go_meet
          exact ⟨rfl, rfl⟩
        have t2 : ((x.flg : Int) == (y.flg : Int)) = true := by rw [e2]; simp
        by_cases e3 : x.dat = y.dat
        case neg =>
          obtain rfl : SB = false := by rw [HSB.out]; exact decide_eq_false fun hh => e3 hh.2.2.2.1
          have t3 : (x.dat == y.dat) = false := by simpa using e3
          rw [t3] at CS2
          clear t3
          clear e0 e1 e2 e3
          go_wp2_with fail
          refine CS1.out.mono ?_
          rintro e w9 ⟨rfl, rfl⟩
          go_wp2_with fail
          refine CS2.out.mono ?_
          rintro e w9 ⟨rfl, rfl⟩
          go_wp2_with fail
          go_meet
          exact ⟨rfl, rfl⟩
        have t3 : (x.dat == y.dat) = true := by rw [e3]; simp
        rw [t3] at CS2
        clear t3
        by_cases e4 : f = 0
        case neg =>
          obtain rfl : SB = false := by rw [HSB.out]; exact decide_eq_false fun hh => e4 hh.2.2.2.2
          have t4 : ((f : Int) == 0) = false := by rw [beq_eq_false_iff_ne]; omega
          clear e0 e1 e2 e3 e4
          go_wp2_with fail
          refine CS1.out.mono ?_
          rintro e w9 ⟨rfl, rfl⟩
          go_wp2_with fail
          refine CS2.out.mono ?_
          rintro e w9 ⟨rfl, rfl⟩
          go_wp2_with fail
          go_meet
          exact ⟨rfl, rfl⟩
        have t4 : ((f : Int) == 0) = true := by rw [e4]; simp
        obtain rfl : SB = true := by rw [HSB.out]; exact decide_eq_true ⟨e0, e1, e2, e3, e4⟩
        clear e0 e1 e2 e3 e4
        go_wp2_with fail
        refine CS1.out.mono ?_
        rintro e w9 ⟨rfl, rfl⟩
        go_wp2_with fail
        refine CS2.out.mono ?_
        rintro e w9 ⟨rfl, rfl⟩
        go_wp2_with fail
        go_meet
        exact ⟨rfl, rfl⟩
      case rest =>
        obtain ⟨rfl, rfl⟩ := hcut
        cases SB with
        | true =>
          go_wp2_with fail
          refine CS3.out.mono ?_
          rintro e w9 ⟨rfl, rfl⟩
          go_wp2_with fail
          refine (CH.out w8 T8.out).mono ?_
          rintro e wh ⟨rfl, hb2⟩
          have TH := Lib.hid (T8.out.trans (hb2.mono T8.out.size))
          clear hb2
          go_wp2_with fail
          go_ret
          exact ⟨rfl, TH.out⟩
        | false =>
          go_wp2_with fail
          refine CS3.out.mono ?_
          rintro e w9 ⟨rfl, rfl⟩
          go_wp2_with fail
          refine (CH.out w8 T8.out).mono ?_
          rintro e wh ⟨rfl, hb2⟩
          have TH := Lib.hid (T8.out.trans (hb2.mono T8.out.size))
          clear hb2
          go_wp2_with fail
          go_ret
          exact ⟨rfl, TH.out⟩
end Go.Proofs.YtlecbblmaadpiaaGreatDoor
