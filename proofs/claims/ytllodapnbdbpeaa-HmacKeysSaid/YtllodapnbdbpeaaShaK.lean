/- What Sum of layer 7 returns: the digest of the parts' text. -/
import Derived.Test.YtllodapnbdbpeaaShaJ
namespace Go.Proofs.Ytllodapnbdbpeaa
open Go.RowKit

theorem PtsF.imp {w : World} {F G : Nat → Prop} {A : Option Addr} {n : Nat} {ps : List Pt} (h : PtsF w F A n ps) (hF : ∀ b, F b → G b) : PtsF w G A n ps :=
  ⟨h.1, fun hn => by
    obtain ⟨b, o, e, hb, hc⟩ := h.2.1 hn
    exact ⟨b, o, e, hF b hb, hc⟩, fun p hp => ⟨(h.2.2 p hp).1.imp hF, (h.2.2 p hp).2⟩⟩
theorem Ob.rdF {w : World} {base n c : Nat} {t : TypeId} {A : Option Addr} {l : List UInt8} (h : Ob w base t (.slice A n c) l) : RdF w (fun k => base ≤ k ∧ k < w.heap.size) A n l := by
  obtain ⟨hl, hr, _, _⟩ := h.rd_
  refine ⟨hl, fun hn => ?_⟩
  obtain ⟨q, cap, hv, hb, hq, _⟩ := h.form (by omega)
  obtain ⟨b, o, e, _, hc⟩ := hr.2 hn
  injection hv with e1
  rw [e] at e1
  injection e1 with e1
  injection e1 with e1 e2
  subst e1 e2
  exact ⟨b, 0, e, ⟨hb, hq⟩, hc⟩

theorem Ob.low {w : World} {base base' : Nat} {t : TypeId} {v : Value} {l : List UInt8} (h : Ob w base t v l) (hb : base' ≤ base) : Ob w base' t v l :=
  ⟨h.1, h.2.imp id (fun ⟨g, cap, cur, h1, h2, h3⟩ => ⟨g, cap, cur, h1, Nat.le_trans hb h2, h3⟩)⟩

set_option maxRecDepth 100000 in
set_option maxHeartbeats 2000000 in
theorem csum_any (Ap : Option Addr) (np cp : Nat) (ps : List Pt) (w : World) (hp : PtsF w (· < w.heap.size) Ap np ps) (hz : (catP ps).length ≤ 549755813888) (hnp : np ≤ 1099511627776) :
    Calls Try.prog 26 #[.slice Ap np cp] w (GivesO 5 (shaL (catP ps)) w) := by
  have HP := Lib.hid hp
  have HZ := Lib.hid hz
  have C1 := Lib.hid (show Calls Try.prog 31 #[] w (fun e w' => e = .returned (.agg #[.int .u32 1779033703, .int .u32 3144134277, .int .u32 1013904242, .int .u32 2773480762, .int .u32 1359893119, .int .u32 2600822924, .int .u32 528734635, .int .u32 1541459225]) ∧ Below w.heap.size w w') from firstState_any w)
  clear hp hz
  go_enter Try.func26, Try.ntmps26
  go_wp2_with fail
  refine C1.out.mono ?_
  rintro e w1 ⟨rfl, hb1⟩
  have B1 := Lib.hid hb1
  clear hb1
  go_wp2_with fail
  have hD : Dg (w1.alloc (.cells #[.int .u32 1779033703, .int .u32 3144134277, .int .u32 1013904242, .int .u32 2773480762, .int .u32 1359893119, .int .u32 2600822924, .int .u32 528734635, .int .u32 1541459225, .slice none 0 0, .int .i64 0] 51)) w1.heap.size (stL []) (.slice none 0 0) ([] : List UInt8).length := heap_alloc_new w1 _
  have hz1 : w.heap.size ≤ w1.heap.size := B1.out.size
  have hP1 : PtsF (w1.alloc (.cells #[.int .u32 1779033703, .int .u32 3144134277, .int .u32 1013904242, .int .u32 2773480762, .int .u32 1359893119, .int .u32 2600822924, .int .u32 528734635, .int .u32 1541459225, .slice none 0 0, .int .i64 0] 51)) (Fr (w1.alloc (.cells #[.int .u32 1779033703, .int .u32 3144134277, .int .u32 1013904242, .int .u32 2773480762, .int .u32 1359893119, .int .u32 2600822924, .int .u32 528734635, .int .u32 1541459225, .slice none 0 0, .int .i64 0] 51)) w1.heap.size (.slice none 0 0)) Ap np ps := by
    refine (HP.out.keep (fun b hb => ?_)).imp (fun b hb => ⟨?_, ?_, fun e => by cases e⟩)
    · rw [heap_lt _ _ _ (Nat.lt_of_lt_of_le hb hz1), B1.out.block b hb]
    · simp only [World.size_alloc]; omega
    · have : b < w.heap.size := hb
      omega
  have hB1 : Below w.heap.size w (w1.alloc (.cells #[.int .u32 1779033703, .int .u32 3144134277, .int .u32 1013904242, .int .u32 2773480762, .int .u32 1359893119, .int .u32 2600822924, .int .u32 528734635, .int .u32 1541459225, .slice none 0 0, .int .i64 0] 51)) := B1.out.alloc hz1 _
  obtain ⟨g, hg⟩ : ∃ g, g = w1.heap.size := ⟨_, rfl⟩
  rw [← hg] at hD hP1 hz1 ⊢
  generalize w1.alloc (.cells #[.int .u32 1779033703, .int .u32 3144134277, .int .u32 1013904242, .int .u32 2773480762, .int .u32 1359893119, .int .u32 2600822924, .int .u32 528734635, .int .u32 1541459225, .slice none 0 0, .int .i64 0] 51) = W1 at *
  have hT1 := take_any g (.slice none 0 0) [] Ap np cp ps W1 hD (Ob.nil_ _ _ _) hP1 (by rw [List.nil_append]; have := HZ.out; omega) hnp
  rw [List.nil_append] at hT1
  have T1 := Lib.hid hT1
  have BW := Lib.hid hB1
  have HGW := Lib.hid hz1
  obtain ⟨T, hT⟩ : ∃ T, T = catP ps := ⟨_, rfl⟩
  have t1 := T1.out
  have hzT := HZ.out
  rw [← hT] at t1 hzT
  have T2 := Lib.hid t1
  have HT := Lib.hid hT
  have HZT := Lib.hid hzT
  clear hD hP1 hB1 hT1 hz1 T1 hT t1 hzT hg B1 C1
  refine T2.out.mono ?_
  rintro e w2 ⟨rfl, v1, ht⟩
  have TK := Lib.hid ht
  obtain ⟨N, hN⟩ : ∃ N, N = T.length := ⟨_, rfl⟩
  have hc9 := (TkS.dg ht).len
  rw [← hN] at hc9
  have CP := Lib.hid (cpad_any N (by have := HZT.out; omega) w2)
  have HN := Lib.hid hN
  clear ht hN
  go_wp2_with fail
  refine CP.out.mono ?_
  rintro e w3 ⟨v2, rfl, ho3, hb3⟩
  obtain ⟨nx, hnx⟩ : ∃ n, n = (padL N).length := ⟨_, rfl⟩
  obtain ⟨Ax, cx, rfl, hxc, hxm, -⟩ := Ob.rd_n ho3 hnx.symm
  have O3 := Lib.hid ho3
  have B3 := Lib.hid hb3
  have HNX := Lib.hid hnx
  clear ho3 hb3 hnx
  go_wp2_with fail
  have hgl := (TkS.dg TK.out).lt
  have hs3 := B3.out.size
  have hb4 : Below w2.heap.size w2 (w3.alloc (.cells #[.slice Ax nx cx] 22)) := B3.out.alloc hs3 _
  have hd4 : Dg (w3.alloc (.cells #[.slice Ax nx cx] 22)) g (stL T) v1 T.length := (TkS.dg TK.out).of_block (hb4.block g hgl)
  have ho4 : Ob (w3.alloc (.cells #[.slice Ax nx cx] 22)) (g + 1) 5 v1 (wtL T) := (TkS.ob TK.out).below hb4
  have hp4 : PtsF (w3.alloc (.cells #[.slice Ax nx cx] 22)) (Fr (w3.alloc (.cells #[.slice Ax nx cx] 22)) g v1) (some ⟨w3.heap.size, 0, none⟩) 1 [⟨Ax, nx, cx, padL N⟩] := by
    refine ⟨rfl, fun _ => ⟨w3.heap.size, 0, rfl, ⟨by simp, by omega, fun e => ?_⟩, fun i p hi => ?_⟩, fun p hp => ?_⟩
    · have := (TkS.own TK.out _ e).2; omega
    · have : i = 0 := by
        rcases Nat.eq_zero_or_pos i with h | h
        · exact h
        · rw [List.getElem?_eq_none (by simp; omega)] at hi; cases hi
      subst this
      injection hi with hi
      subst hi
      simp only [World.cell?, Nat.zero_add]
      rw [heap_alloc_new]
      rfl
    · rw [List.mem_singleton.1 hp]
      refine ⟨((O3.out.rdF).keep (fun b hb => heap_lt _ _ _ hb.2)).imp (fun b hb => ⟨?_, ?_, fun e => ?_⟩), hxc, by unfold maxLen at hxm; show cx ≤ _; omega⟩
      · have := hb.2; simp; omega
      · have := hb.1; omega
      · have h1 := (TkS.own TK.out _ e).2; have := hb.1; omega
  have hPl : (padL N).length ≤ 72 := by rw [padL_length]; omega
  have hcat : catP [(⟨Ax, nx, cx, padL N⟩ : Pt)] = padL N := by simp [catP]
  have hT5 := take_any g v1 T _ 1 1 _ _ hd4 ho4 hp4 (by rw [hcat, List.length_append]; have := HZT.out; omega) (by decide)
  rw [hcat] at hT5
  have T5 := Lib.hid hT5
  have B4 := Lib.hid hb4
  have HGL := Lib.hid hgl
  clear hgl hs3 hb4 hd4 ho4 hp4 hPl hcat hT5
  refine T5.out.mono ?_
  rintro e w5 ⟨rfl, v3, ht5⟩
  have TK5 := Lib.hid ht5
  have CB := Lib.hid (dbytes_any g _ _ _ w5 (TkS.dg ht5))
  clear ht5
  go_wp2_with fail
  refine CB.out.mono ?_
  rintro e w6 ⟨v6, rfl, ho6, hb6⟩
  have hb : Below w.heap.size w w5 := by
    have b1 := BW.out
    have b2 := (TkS.bl TK.out).mono HGW.out
    have b3 := (B4.out.mono (Nat.le_of_lt HGL.out)).mono HGW.out
    have b4 := (TkS.bl TK5.out).mono HGW.out
    exact ((b1.trans b2).trans b3).trans b4
  have O6 := Lib.hid (ho6.low hb.size)
  have B6 := Lib.hid (hb.trans (hb6.mono hb.size))
  clear ho6 hb6 hb
  go_wp2_with fail
  go_ret
  refine ⟨_, rfl, ?_, B6.out⟩
  have e : shaL (catP ps) = outL (stL (T ++ padL N)).list := by rw [← HT.out, HN.out]; rfl
  rw [e]
  exact O6.out
end Go.Proofs.Ytllodapnbdbpeaa
