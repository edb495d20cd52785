/- The code of layer 14: sum, Frame, Size. -/
import Derived.Test.YtlkppnghfgiapaaDoorRecQ
import Derived.Test.YtlkppnghfgiapaaDoorRecG
import Derived.Test.YtlkppnghfgiapaaDoorNumE
import Derived.Test.YtlkppnghfgiapaaDoorCrcS
import Derived.Laws.MakeOwn
namespace Go.Proofs.YtlkppnghfgiapaaDoor
open Go.RowKit

/-- make of bytes with room behind them. -/
theorem wpList_makeB14 {P : Program} {ops : Array Oper} {rest : List Oper} {o : Oper} {a : Act} {w : World} {Q : Exit → Act → World → Prop} (hg : o.guard = none) (l c : Operand) (t : TypeId) (hop : o.op = Op.makeSlice t l c)
    (e : TypeId) (ht : P.underlying t = some (.slice e)) (hinfo : (P.info? e).map (fun i => (i.zero, i.size, i.bytes)) = some (some (.int .u8 0), 1, 1)) (C : Nat) (y : Int) (hl : a.eval l = .int .i64 0) (hc : a.eval c = .int .i64 y) (hy : y = (C : Int)) (hC : C ≤ 140737488355328)
    (h : ∀ w' : World, Ob w' w.heap.size e (.slice (some ⟨w.heap.size, 0, none⟩) 0 C) [] → Below w.heap.size w w' → wpList P ops Q rest (a.put o.dst (.slice (some ⟨w.heap.size, 0, none⟩) 0 C)) w') : wpList P ops Q (o :: rest) a w := by
  subst hy
  obtain ⟨i, hi, hzz⟩ := Option.map_eq_some_iff.1 hinfo
  simp only [Prod.mk.injEq] at hzz
  obtain ⟨hz, hs, hb⟩ := hzz
  have hr := run_make (P := P) w t e i (.int .u8 0) ht hi hz .i64 .i64 0 (C : Int) (by omega) (by omega) (by rw [hb]; omega) (by omega)
  simp only [Int.toNat_natCast, hs, Nat.mul_one] at hr
  refine wpList_plain hg fun K hK => ?_
  unfold Oper.wp
  simp [execOp, hop, hl, hc, hr, Result.andThen]
  refine hK _ _ (h _ ⟨?_, .inr ⟨w.heap.size, C, _, by simp, Nat.le_refl _, heap_alloc_new w _, by simp, by unfold maxLen; omega, by rw [size_madeCells, Nat.mul_one], ?_⟩⟩ ((Below.refl _ _).alloc (Nat.le_refl _) _))
  · simp
  · simp
theorem Rb.ob14 {w : World} {base b n : Nat} {t : TypeId} {l : List UInt8} (h : Rb w b t n l) (hl : l.length = n) (hb : base ≤ b) (hm : n ≤ maxLen) : Ob w base t (.slice (some ⟨b, 0, none⟩) n n) l := by
  obtain ⟨cs, hg, hs, hx⟩ := h
  refine ⟨by simp [hl], .inr ⟨b, n, cs, by rw [hl], hb, hg, by omega, hm, by omega, ?_⟩⟩
  apply List.ext_getElem?
  intro j
  rw [List.getElem?_take]
  by_cases hj : j < n
  · have hj2 : j < l.length := by omega
    rw [if_pos (by omega), Array.getElem?_toList, hx j hj, List.getElem?_map, List.getElem?_eq_getElem hj2]
    simp [bv, List.getD, hj2]
  · rw [if_neg (by omega), List.getElem?_eq_none (by rw [List.length_map]; omega)]
theorem cput14_any (x : Int) (n : Nat) (k : Int) (hk : k = (n : Int)) (hn : n ≤ 8) (w : World) (hx0 : 0 ≤ x) (hx1 : x < 18446744073709551616) :
    Calls Tryd.prog 21 #[.int .u64 x, .int .i64 k] w (GivesO 5 (be x.toNat n) w) := by
  subst hk
  refine (put_any x (n : Int) w hx0 hx1).mono ?_
  rintro e w' ⟨rfl, hr, hb⟩
  have hp : psz (n : Int) = n := by unfold psz; omega
  rw [hp] at hr
  exact ⟨_, by rw [hp], hr.ob14 (be_length _ _) (Nat.le_refl _) (by unfold maxLen; omega), hb⟩
set_option maxRecDepth 100000 in
set_option maxHeartbeats 1000000 in
/-- bytes.Clone: nil of nil, else bytes of its own. -/
theorem bclone14_any (A : Option Addr) (n c B : Nat) (l : List UInt8) (w : World) (hB : B ≤ w.heap.size) (h : Rd w B A n l) (hn : n ≤ 140737488355328) :
    Calls Tryd.prog 34 #[.slice A n c] w (GivesO 5 l w) := by
  have hl := h.1
  rcases A with _ | a
  · have h0 : n = 0 := by
      rcases Nat.eq_zero_or_pos n with h0 | h0
      · exact h0
      · obtain ⟨_, _, e, _⟩ := h.2 h0
        cases e
    subst h0
    have e : l = [] := List.eq_nil_of_length_eq_zero hl
    subst e
    have q22 := fun (W : World) (a : Option Addr) (n c : Nat) => Lib.run_eql_slice_nil (P := Tryd.prog) W 23 5 a n c 0 0 Tryd.underlying23
    go_enter Tryd.func34, Tryd.ntmps34
    go_wp2_with fail
    go_ret
    exact ⟨_, rfl, Ob.nil_ _ _ _, Below.refl _ _⟩
  · have HR := Lib.hid (h.alloc hB (.cells #[] 5))
    have HO := Lib.hid (show Ob (w.alloc (.cells #[] 5)) w.heap.size 5 (.slice (some ⟨w.heap.size, 0, none⟩) 0 0) [] from Ob.lit w [] #[] rfl (Nat.le_refl _) 0 rfl (by decide))
    have HN : Hid (([] : List UInt8).length + n ≤ 140737488355328) := by show _ ≤ _; simp; exact hn
    clear h hn hl hB
    have q22 := fun (W : World) (a : Option Addr) (n c : Nat) => Lib.run_eql_slice_nil (P := Tryd.prog) W 23 5 a n c 0 0 Tryd.underlying23
    go_enter Tryd.func34, Tryd.ntmps34
    go_wp2_with (first
      | (at_builtin; refine wpList_appB rfl (.tmp 5) (.tmp 6) 23 rfl w.heap.size 5 Tryd.underlying23 info_u8 _ [] rfl HO.out B (some a) n c l rfl HR.out HN.out (by simp) ?_; intro v1 w1 ho1 hb1; have O1 := Lib.hid ho1; have B1 := Lib.hid (((Below.refl w.heap.size w).alloc (Nat.le_refl _) _).trans hb1); clear ho1 hb1)
      | fail)
    go_ret
    exact ⟨_, rfl, by have := O1.out; rwa [List.nil_append] at this, B1.out⟩

end Go.Proofs.YtlkppnghfgiapaaDoor
