/- Put and Get of layer 1's reference; append as a step. (ShaE without Hex.) -/
import Derived.Test.YtlkppnghfgiapaaDoorBase
import Derived.Test.YtlkppnghfgiapaaDoorOwn
import Derived.Test.YtlkppnghfgiapaaDoorNumB
import Derived.Deep.Draws
import Derived.RegionTactic
import Derived.Deep.RegionLawGrows
namespace Go.Proofs.YtlkppnghfgiapaaDoor
open Go.RowKit

/-- A call gives back a slice of its own that reads as l, and leaves what was there. -/
def GivesO (t : TypeId) (l : List UInt8) (w : World) (e : Ending) (w' : World) : Prop := ∃ v, e = .returned v ∧ Ob w' w.heap.size t v l ∧ Below w.heap.size w w'

theorem be_take (x n k : Nat) (hk : k < n) : (be x n).take (k + 1) = (be x n).take k ++ [UInt8.ofNat (x / 256 ^ (n - 1 - k))] := by
  rw [take_more _ _ (by rw [be_length]; exact hk)]
  simp [be, List.getD, hk]
theorem one_byte (x : Int) (h0 : 0 ≤ x) (s : Nat) : #[Value.int .u8 (x / 2 ^ (8 * s) % 256)] = (([UInt8.ofNat (x.toNat / 256 ^ s)] : List UInt8).map fun u => Value.int .u8 (u.toNat : Int)).toArray := by
  rw [byte_at_pow x h0 s]; rfl

set_option maxRecDepth 100000 in
set_option maxHeartbeats 1000000 in
theorem rput_any (x : Int) (n : Nat) (w : World) (hx0 : 0 ≤ x) (_hx1 : x < 18446744073709551616) (hn : n ≤ 8) :
    Calls Tryd.prog 24 #[.int .u64 x, .int .i64 (n : Int)] w (GivesO 5 (be x.toNat n) w) := by
  rcases Nat.eq_zero_or_pos n with h0 | h0
  · subst h0
    go_enter Tryd.func24, Tryd.ntmps24
    go_wp2
    go_ret
    exact ⟨_, rfl, Ob.nil_ _ _ _, Below.refl _ _⟩
  · go_enter Tryd.func24, Tryd.ntmps24
    go_wp2
    go_loopw [5, 6] (fun v i wr => ∃ r : Nat, r ≤ n ∧ i = .int .i64 ((r : Int) - 1) ∧ Hid (Ob wr w.heap.size 5 v ((be x.toNat n).take (n - r))) ∧ Hid (Below w.heap.size w wr)) (fun _ i _ => ((intOf i) + 1).toNat)
    case atStart => exact ⟨n, Nat.le_refl _, rfl, by rw [Nat.sub_self, List.take_zero]; exact Ob.nil_ _ _ _, Below.refl _ _⟩
    case round =>
      obtain ⟨r, hr, rfl, hob, hbel⟩ := hrel
      by_cases hlt : 0 < r
      · obtain ⟨q, rfl⟩ : ∃ q, r = q + 1 := ⟨r - 1, by omega⟩
        obtain ⟨X, hX⟩ : ∃ X, X = UInt8.ofNat (x.toNat / 256 ^ q) := ⟨_, rfl⟩
        have hbd : ((be x.toNat n).take (n - (q + 1))).length + 1 ≤ 140737488355328 := by rw [List.length_take, be_length]; omega
        have HBD := Lib.hid hbd
        have hbz : w.heap.size ≤ wr.heap.size := hbel.out.size
        have HBZ := Lib.hid hbz
        have HX := Lib.hid hX
        have e1 : ((q + 1 : Nat) : Int) - 1 = (q : Int) := by omega
        rw [e1]
        clear hX hbd hbz e1
        go_wp2_with (first
          | (at_builtin; refine wpList_appB rfl (.tmp 17) (.tmp 24) 23 rfl w.heap.size 5 Tryd.underlying23 info_u8 _ _ rfl (hob.out.alloc _) _ _ 1 1 [X] rfl (Rd.lit wr _ rfl [X] _ _ (by rw [HX.out]; exact one_byte x hx0 q) 1 rfl) HBD.out (Nat.le_trans HBZ.out (le_alloc _ _)) ?_; intro v1 w1 ho1 hb1; have O1 := Lib.hid ho1; have B1 := Lib.hid hb1; clear ho1 hb1)
          | fail)
        go_roundw
        case rel =>
          refine ⟨q, by omega, rfl, ?_, (((hbel.out).alloc HBZ.out _).trans B1.out)⟩
          have e := be_take x.toNat n (n - (q + 1)) (by omega)
          rw [show n - (q + 1) + 1 = n - q by omega, show n - 1 - (n - (q + 1)) = q by omega, ← HX.out] at e
          show Ob _ _ _ _ _
          rw [e]
          exact O1.out
        case measure => simp [intOf]
      · obtain rfl : r = 0 := by omega
        have ho := hob.out
        rw [Nat.sub_zero, List.take_of_length_le (by rw [be_length]; exact Nat.le_refl _)] at ho
        have HO := Lib.hid ho
        clear ho
        go_wp2_with fail
        go_ret
        exact ⟨_, rfl, HO.out, hbel.out⟩


set_option maxRecDepth 100000 in
set_option maxHeartbeats 1000000 in
theorem rget_any (A : Option Addr) (n c : Nat) (l : List UInt8) (w : World) (B : Nat) (h : Rd w B A n l) (hn : n ≤ 140737488355328) :
    Calls Tryd.prog 27 #[.slice A n c] w fun e w' => e = .returned (.int .u64 (beNat l : Int)) ∧ w = w' := by
  have HR := Lib.hid h
  clear h
  go_enter Tryd.func27, Tryd.ntmps27
  go_wp2
  go_loop [3, 4] (fun v i => ∃ (k d : Nat), k ≤ n ∧ i = .int .i64 k ∧ v = .int .u64 (d : Int) ∧ Hid (d = beNat (l.take k)) ∧ d < 18446744073709551616) (fun _ i => n - (intOf i).toNat)
  case atStart => exact ⟨0, 0, Nat.zero_le _, rfl, rfl, rfl, by decide⟩
  case round =>
    obtain ⟨k, d, hk, rfl, rfl, hd, hdl⟩ := hrel
    by_cases hlt : k < n
    · obtain ⟨b, o, rfl, hb, hcell⟩ := HR.out.2 (by omega)
      obtain ⟨x, hx⟩ : ∃ x, x = l.getD k 0 := ⟨_, rfl⟩
      have hcx : w.cell? ⟨b, o + k, none⟩ = some (.int .u8 (x.toNat : Int)) := by rw [hx]; exact hcell k hlt
      have Hx := Lib.hid hx
      clear hx hcell
      have hx1 : (x.toNat : Int) < 256 := by have := x.toNat_lt; omega
      have hx0 : (0 : Int) ≤ (x.toNat : Int) := by omega
      go_wp2_with fail
      go_round
      case rel =>
        have hl := HR.out.1
        refine ⟨k + 1, (d * 256 + x.toNat) % 18446744073709551616, by omega, by go_num, ?_, ?_, Nat.mod_lt _ (by decide)⟩
        · rw [IntKind.wrap_u64, IntKind.wrap_u64]; congr 1; omega
        · show _ = _
          rw [take_more l k (by omega), ← Hx.out, beNat_snoc, ← hd.out]
      case measure => simp [intOf]; omega
    · obtain rfl : k = n := by omega
      have hl := HR.out.1
      have e : l.take k = l := List.take_of_length_le (by omega)
      have HE := Lib.hid e
      clear e hl
      go_wp2
      go_ret
      exact ⟨by rw [hd.out, HE.out]; rfl, rfl⟩

/-- append at a step of a region that draws its order, and what else it leaves. -/
theorem step_appG {P : Program} {w : World} {ops : Array Oper} {o : Oper} {a : Act} {K : Act → World → Prop} {Q : Exit → Act → World → Prop} {E : Prop} (hgd : o.guard = none) (s x : Operand) (t : TypeId)
    (ho : o.op = .call { callee := .builtin .append, args := #[s, x], argTypes := #[t, t] })
    (base : Nat) (e : TypeId) (ht : P.underlying t = some (.slice e)) (hinfo : (P.info? e).map (fun i => (i.zero, i.size, i.bytes)) = some (some (.int .u8 0), 1, 1))
    (v : Value) (l : List UInt8) (hs : a.eval s = v) (hown : Ob w base e v l) (B : Nat) (A : Option Addr) (m c : Nat) (news : List UInt8) (hx : a.eval x = .slice A m c) (hr : Rd w B A m news)
    (hbound : l.length + m ≤ 140737488355328) (hbase : base ≤ w.heap.size)
    (h : ∀ v' w', Ob w' base e v' (l ++ news) → w.grownBy w' v.ownBlock → K (a.put o.dst v') w') : if Region.wanted o (yielded ops a.tmps) = true then Oper.wp P o a w K Q else E := by
  have hw : Region.wanted o (yielded ops a.tmps) = true := by simp [Region.wanted, hgd]
  rw [if_pos hw]
  obtain ⟨v', w', hrun, h2, h3, h4⟩ := run_app (P := P) w base t o.type e ht hinfo v l hown B A m c news hr hbound hbase
  unfold Oper.wp execOp
  simp only [ho, resolve, invoke, builtin, Sem.run_bind, Sem.run_pure, Result.andThen_ok, List.map_toArray, List.map_cons, List.map_nil, hs, hx, hrun]
  exact h v' w' h2 h3
theorem Rd.grown {w w' : World} {B n : Nat} {A : Option Addr} {l : List UInt8} {row : Option Nat} (h : Rd w B A n l) (hg : w.grownBy w' row) (hB : B ≤ w.heap.size) (hne : ∀ b o, A = some ⟨b, o, none⟩ → row ≠ some b) : Rd w' B A n l :=
  ⟨h.1, fun hn => by
    obtain ⟨b, o, e, hb, hc⟩ := h.2 hn
    refine ⟨b, o, e, hb, fun i hi => ?_⟩
    rw [← hc i hi]
    simp only [World.cell?]
    rw [hg.block b (by omega) (fun h => hne b o e h.symm)]⟩

theorem grown_trans {w0 W w' : World} {t : TypeId} {v : Value} {l : List UInt8} (hg : W.grownBy w' v.ownBlock) (hown : Ob W w0.heap.size t v l) (hb : Below w0.heap.size w0 W) : Below w0.heap.size w0 w' :=
  hb.trans ⟨hg.os, hg.tape, hg.output, hg.size, fun k hk => hg.block k (Nat.lt_of_lt_of_le hk hb.size) (fun e => by have := (World.ownsRow.lt hown k e.symm).1; omega)⟩

/-- The digits of bytes. -/
def dgt (x : Nat) : UInt8 := if x < 10 then UInt8.ofNat (48 + x) else UInt8.ofNat (87 + x)
def hexL (l : List UInt8) : List UInt8 := l.flatMap fun x => [dgt (x.toNat / 16), dgt (x.toNat % 16)]
end Go.Proofs.YtlkppnghfgiapaaDoor
