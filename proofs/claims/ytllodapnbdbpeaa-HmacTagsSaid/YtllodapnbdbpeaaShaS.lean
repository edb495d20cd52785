/- What Pad and words of layer 7's reference return. -/
import Derived.Test.YtllodapnbdbpeaaShaL
import Derived.RegionTactic
namespace Go.Proofs.Ytllodapnbdbpeaa
open Go.RowKit

theorem info_u32a : (Try.prog.info? 40).map (fun i => (i.zero, i.size, i.bytes)) = some (some (.int .u32 0), 1, 4) := by kernel_rfl
theorem Ow.low {w : World} {base base' : Nat} {t : TypeId} {v : Value} {l : List (BitVec 32)} (h : Ow w base t v l) (hb : base' ≤ base) : Ow w base' t v l :=
  ⟨h.1, h.2.imp id (fun ⟨g, cap, cur, h1, h2, h3⟩ => ⟨g, cap, cur, h1, Nat.le_trans hb h2, h3⟩)⟩
/-- A call gives back a slice of words of its own. -/
def GivesOw (t : TypeId) (l : List (BitVec 32)) (w : World) (e : Ending) (w' : World) : Prop := ∃ v, e = .returned v ∧ Ow w' w.heap.size t v l ∧ Below w.heap.size w w'

set_option maxRecDepth 100000 in
set_option maxHeartbeats 1000000 in
theorem rpad_any (N : Nat) (hN : N ≤ 1099511627776) (w : World) : Calls Try.prog 20 #[.int .i64 (N : Int)] w (GivesO 5 (padL N) w) := by
  obtain ⟨m, hm⟩ : ∃ m, m = 63 - (N % 64 + 8) % 64 := ⟨_, rfl⟩
  have HP : Hid (padL N = (128 :: List.replicate m (0 : UInt8)) ++ be (8 * N) 8) := by show _ = _; rw [padL, hm]; rfl
  have C2 := Lib.hid (fun W => (show Calls Try.prog 23 #[.int .u64 (8 * (N : Int)), .int .i64 8] W (GivesO 5 (be (8 * (N : Int)).toNat 8) W) from rput_any (8 * (N : Int)) 8 W (by omega) (by omega) (by decide)))
  have HE : Hid (be (8 * (N : Int)).toNat 8 = be (8 * N) 8) := by show _ = _; congr 1
  have w8 : IntKind.u64.wrap (8 * (N : Int)) = 8 * (N : Int) := by rw [IntKind.wrap_u64]; omega
  have HM := Lib.hid hm
  clear hm
  go_enter Try.func20, Try.ntmps20
  have n0 : (0 : Int) ≤ (N : Int) := by omega
  go_wp2_with fail
  go_loopw [3] (fun v wr => ∃ k : Nat, k ≤ m ∧ (∃ A c, v = .slice A (1 + k) c) ∧ Hid (Ob wr w.heap.size 5 v (128 :: List.replicate k 0)) ∧ Hid (Below w.heap.size w wr)) (fun v _ => 100 - lenV v)
  case atStart =>
    refine ⟨0, Nat.zero_le _, ⟨_, _, rfl⟩, ?_, (Below.refl _ _).alloc (Nat.le_refl _) _⟩
    exact Ob.lit w [128] #[.int .u8 128] rfl (Nat.le_refl _) 1 rfl (by decide)
  case round =>
    obtain ⟨k, hk, ⟨A, c, rfl⟩, hob, hbel⟩ := hrel
    have hmm := HM.out
    have hk6 : k < 64 := by omega
    by_cases hlt : k < m
    · have ht : (((N : Int) % 64 + (1 + (k : Int)) + 8) % 64 != 0) = true := by
        rw [bne_iff_ne]; omega
      have ht2 : ¬ ((N : Int) + (1 + (k : Int)) + 8) % 64 = 0 := by omega
      obtain ⟨L, hL⟩ : ∃ L, L = (128 :: List.replicate k (0 : UInt8)) := ⟨_, rfl⟩
      have ho := hob.out
      rw [← hL] at ho
      have hl : L.length = 1 + k := by rw [hL]; simp; omega
      have hl2 : (L ++ [0]).length = 1 + (k + 1) := by simp [hl]; omega
      have HO := Lib.hid ho
      have HL := Lib.hid hL
      have HLL := Lib.hid hl
      have HL2 := Lib.hid hl2
      have HK := Lib.hid hlt
      clear ho hL hl hl2 hmm
      go_wp2_with (first
        | (at_builtin; refine wpList_appB rfl (.tmp 15) (.tmp 16) 22 rfl w.heap.size 5 Try.underlying22 info_u8 _ L rfl (HO.out.alloc _) _ _ 1 1 [0] rfl (Rd.lit wr _ rfl [0] _ _ rfl 1 rfl) (by rw [HLL.out]; have := HK.out; have := HM.out; omega) (Nat.le_trans hbel.out.size (le_alloc _ _)) ?_; intro v1 w1 ho1 hb1; obtain ⟨A1, c1, rfl, -, -, -⟩ := Ob.rd_n ho1 HL2.out; have O1 := Lib.hid ho1; have B1 := Lib.hid ((hbel.out.alloc hbel.out.size _).trans hb1); clear ho1 hb1)
        | fail)
      go_roundw
      case rel =>
        refine ⟨k + 1, by omega, ⟨A1, c1, rfl⟩, ?_, B1.out⟩
        show Ob _ _ _ _ _
        have h := O1.out
        rw [HL.out, List.cons_append, ← List.replicate_succ'] at h
        exact h
      case measure => show 100 - (1 + (k + 1)) < 100 - (1 + k); have := HM.out; omega
    · obtain rfl : k = m := by omega
      have ht : (((N : Int) % 64 + (1 + (k : Int)) + 8) % 64 != 0) = false := by
        rw [bne_eq_false_iff_eq]; omega
      have ht2 : ((N : Int) + (1 + (k : Int)) + 8) % 64 = 0 := by omega
      clear hmm
      go_wp2_with fail
      refine (C2.out wr).mono ?_
      rintro e w2 ⟨v2, rfl, ho2, hb2⟩
      rw [HE.out] at ho2
      obtain ⟨A2, c2, rfl, -, -, hr2⟩ := Ob.rd_n ho2 (be_length _ 8)
      have O2 := Lib.hid (hob.out.below hb2)
      have R2 := Lib.hid hr2
      have B2 := Lib.hid (hbel.out.trans (hb2.mono hbel.out.size))
      clear ho2 hb2 hr2
      go_wp2_with (first
        | (at_builtin; refine wpList_appB rfl (.tmp 18) (.tmp 22) 22 rfl w.heap.size 5 Try.underlying22 info_u8 _ (128 :: List.replicate k 0) rfl O2.out _ _ 8 c2 (be (8 * N) 8) rfl R2.out (by simp; omega) B2.out.size ?_; intro v3 w3 ho3 hb3; have O3 := Lib.hid ho3; have B3 := Lib.hid (B2.out.trans hb3); clear ho3 hb3)
        | fail)
      go_ret
      exact ⟨_, rfl, by rw [HP.out]; exact O3.out, B3.out⟩

theorem rpad_neg (n : Int) (hn : n < 0) (w : World) : Calls Try.prog 20 #[.int .i64 n] w (fun e w' => e = .returned (.slice none 0 0) ∧ w = w') := by
  go_enter Try.func20, Try.ntmps20
  go_wp2
  go_ret
  exact ⟨rfl, rfl⟩

/-- append at a step of a region that draws its order, and what else it leaves. -/
theorem step_appwG {P : Program} {w : World} {ops : Array Oper} {o : Oper} {a : Act} {K : Act → World → Prop} {Q : Exit → Act → World → Prop} {E : Prop} (hgd : o.guard = none) (s x : Operand) (t : TypeId)
    (ho : o.op = .call { callee := .builtin .append, args := #[s, x], argTypes := #[t, t] })
    (base : Nat) (e : TypeId) (ht : P.underlying t = some (.slice e)) (hinfo : (P.info? e).map (fun i => (i.zero, i.size, i.bytes)) = some (some (.int .u32 0), 1, 4))
    (v : Value) (l : List (BitVec 32)) (hs : a.eval s = v) (hown : Ow w base e v l) (B : Nat) (A : Option Addr) (m c : Nat) (news : List (BitVec 32)) (hx : a.eval x = .slice A m c) (hr : Rw w B A m news)
    (hbound : l.length + m ≤ 35184372088832) (hbase : base ≤ w.heap.size)
    (h : ∀ v' w', Ow w' base e v' (l ++ news) → w.grownBy w' v.ownBlock → K (a.put o.dst v') w') : if Region.wanted o (yielded ops a.tmps) = true then Oper.wp P o a w K Q else E := by
  have hw : Region.wanted o (yielded ops a.tmps) = true := by simp [Region.wanted, hgd]
  rw [if_pos hw]
  obtain ⟨v', w', hrun, h2, h3, h4⟩ := run_appw (P := P) w base t o.type e ht hinfo v l hown B A m c news hr hbound hbase
  unfold Oper.wp execOp
  simp only [ho, resolve, invoke, builtin, Sem.run_bind, Sem.run_pure, Result.andThen_ok, List.map_toArray, List.map_cons, List.map_nil, hs, hx, hrun]
  exact h v' w' h2 h3

end Go.Proofs.Ytllodapnbdbpeaa
