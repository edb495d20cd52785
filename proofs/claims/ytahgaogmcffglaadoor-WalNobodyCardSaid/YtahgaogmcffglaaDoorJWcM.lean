/- The code's log: Open. -/
import Derived.Test.YtahgaogmcffglaaDoorJWcL
namespace Go.Proofs.YtahgaogmcffglaaDoor
open Go.RowKit

/-- What Open answers, where there is a log to open. -/
def OpnR (a n t len : Nat) (L : List Rcd) (w : World) (B gd : Nat) (e : Ending) (w' : World) : Prop :=
  Below w.heap.size w w' ∧ ∃ g v qs Fw mid, e = .returned (.tuple #[.pointer (some ⟨g, 0, none⟩), v, .int .i64 0]) ∧ WlK w' Fw B g gd ⟨a, n, t, len, L, false⟩ ∧ (∀ k, Fw k → w.heap.size ≤ k ∧ k < mid) ∧ w.heap.size ≤ mid ∧ ScS w' mid v qs ∧ qs.map (·.1) = L
set_option maxRecDepth 100000 in
set_option maxHeartbeats 16000000 in
theorem wOpen_any (X : Snt14) (w : World) {Fd : Nat → Prop} {B gd : Nat} {Z : List (List UInt8)} {lf : Int} (a n t len : Nat) (L : List Rcd)
    (hA : ∀ W, Below B w W → Lds14 X W) (hBw : B ≤ w.heap.size) (hd : CDk w Fd B gd ⟨Z, [], true, lf⟩) (hn4 : 4 ≤ n) (hin : a + n ≤ Z.length) (hI : InZ a n Z t len L) :
    Calls Tryd.prog 21 #[.pointer (some ⟨gd, 0, none⟩), .int .i64 (a : Int), .int .i64 (n : Int)] w (OpnR a n t len L w B gd) := by
  have hZ : Z.length ≤ 65536 := hd.few
  have C1 := csectors_any w hd
  have C2 := cwaiting_any w hd
  have C1 := Lib.hid (show Calls Tryd.prog 44 #[.pointer (some ⟨gd, 0, none⟩)] w fun e w' => e = .returned (.int .i64 (Z.length : Int)) ∧ w = w' from C1)
  have C2 := Lib.hid (show Calls Tryd.prog 45 #[.pointer (some ⟨gd, 0, none⟩)] w fun e w' => e = .returned (.int .i64 0) ∧ w = w' from C2)
  obtain ⟨w1, hw1⟩ : ∃ w1, w1 = w.alloc (.cells #[.pointer (some ⟨gd, 0, none⟩), .int .i64 (a : Int), .int .i64 (n : Int), .int .u64 0, .int .i64 0, .slice none 0 0, .bool false] 63) := ⟨_, rfl⟩
  have hb1 : Below w.heap.size w w1 := by rw [hw1]; exact (Below.refl _ _).alloc (Nat.le_refl _) _
  have hr1 : w1.heap[w.heap.size]? = some (.cells (Ws.cs ⟨a, n, 0, 0, [], false⟩ gd (.slice none 0 0)) 63 (0, 0)) := by rw [hw1]; exact heap_alloc_new w _
  have hft : ∀ k, ¬ FtR (.slice none 0 0) [] k := fun k hk => by
    rcases hk with hk | ⟨q, hq, -⟩
    · cases hk
    · exact absurd hq (by simp)
  have hk1 := WlK.mk_ (S := ⟨a, n, 0, 0, [], false⟩) hBw hr1 (⟨World.ownsRow_nil _ _ _ _, fun q hq => absurd hq (by simp)⟩ : ScS w1 B (.slice none 0 0) []) rfl (Nat.zero_le _)
  have CL := Lib.hid (wload_any X w1 a n t len L (fun W hW => hA W ((hb1.mono hBw).trans hW)) (Nat.le_trans hBw hb1.size) (hd.below hb1) hk1 (by omega) hin hI)
  have c1 : ¬ (n : Int) < 4 := by omega
  have c2 : ¬ (a : Int) < 0 := by omega
  have w2 : IntKind.i64.wrap ((Z.length : Int) - (n : Int)) = (Z.length : Int) - (n : Int) := by rw [IntKind.wrap_i64]; omega
  have c3 : ¬ ((Z.length : Int) - (n : Int) < (a : Int)) := by omega
  have HB1 := Lib.hid hb1
  have HW1 := Lib.hid hw1
  have HS1 : Hid (w.heap.size < w1.heap.size) := by show _ < _; rw [hw1]; simp
  have HFT := Lib.hid hft
  clear hA hBw hd hn4 hin hI hZ hb1 hr1 hft hk1 hw1
  go_enter Tryd.func21, Tryd.ntmps21
  go_upto_region 8 with (first
    | (go_at_call 44; refine C1.out.mono ?_; rintro e wx ⟨rfl, rfl⟩)
    | (go_at_call 45; refine C2.out.mono ?_; rintro e wx ⟨rfl, rfl⟩)
    | fail)
  rw [← HW1.out]
  go_wp2_with fail
  refine CL.out.mono ?_
  rintro e w5 ⟨rfl, Fw, hw5, hf5, hg5⟩
  have HFW : Hid (∀ k, Fw k → w.heap.size ≤ k) := fun k hk => by
    rcases hg5 k hk with h | h
    · rcases h with rfl | h
      · exact Nat.le_refl _
      · exact absurd h (HFT.out k)
    · have := HS1.out; omega
  have B5 : Hid (Below w.heap.size w w5) := HB1.out.trans (hf5.below HB1.out.size (fun k hk => by
    rcases hk with rfl | hk
    · exact Nat.le_refl _
    · exact absurd hk (HFT.out k)))
  have HW5 := Lib.hid hw5
  have CR := Lib.hid (wRecords_any w5 hw5)
  have hrs : Ws.recs ⟨a, n, t, len, L, false⟩ = L := rfl
  rw [hrs] at CR
  clear hw5 hf5 hg5 hrs
  unfold RcsR at CR
  go_wp2_with (first
    | (go_at_call 22; refine CR.out.mono ?_; rintro e w6 ⟨hb6, v6, q6, rfl, hs6, hq6⟩; have B6 := Lib.hid hb6; have S6 := Lib.hid hs6; have Q6 := Lib.hid hq6; clear hb6 hs6 hq6)
    | fail)
  refine bodyPost_ret (results_tmp3 Tryd.results21 _ _ _) rfl ⟨B5.out.trans (B6.out.mono B5.out.size), w.heap.size, v6, q6, Fw, w5.heap.size, rfl, HW5.out.below B6.out, fun k hk => ⟨HFW.out k hk, (HW5.out.fit k hk).2⟩, B5.out.size, S6.out, Q6.out⟩
end Go.Proofs.YtahgaogmcffglaaDoor
