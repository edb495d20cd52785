/- Tag and Verify of one part, or two, that a statement lays (layer 8); what must come at any rate ('heads' of layer 8's statements): true. -/
import Derived.Test.YtllodapnbdbpeaaHmC
namespace Go.Proofs.Ytllodapnbdbpeaa
open Go.RowKit

/-- The world in which a statement has laid its one part. -/
def one (W : World) (A : Option Addr) (n c : Nat) : World := W.alloc (.cells #[.slice A n c] 22)
theorem one_pts (W : World) (A : Option Addr) (n c : Nat) (l : List UInt8) (h : Rd W W.heap.size A n l) (hc : n ≤ c) (hc2 : c ≤ 9223372036854775807) : PtsF (W.alloc (.cells #[.slice A n c] 22)) (· < (W.alloc (.cells #[.slice A n c] 22)).heap.size) (some ⟨W.heap.size, 0, none⟩) 1 [⟨A, n, c, l⟩] :=
  ptsF_lit W 22 [⟨A, n, c, l⟩] #[.slice A n c] rfl 1 rfl (fun p hp => by rw [List.mem_singleton.1 hp]; exact ⟨h, hc, hc2⟩)
theorem tag1_any (A A' : Option Addr) (n c n' c' : Nat) (k t : List UInt8) (W : World) (h : Rd W W.heap.size A n k) (hc : n ≤ c) (hc2 : c ≤ 9223372036854775807) (hn : n ≤ 274877906944) (h' : Rd W W.heap.size A' n' t) (hc' : n' ≤ c') (hc2' : c' ≤ 9223372036854775807) (hn' : n' ≤ 274877906944) :
    Calls Try.prog 11 #[.slice A n c, .slice (some ⟨W.heap.size, 0, none⟩) 1 1] (W.alloc (.cells #[.slice A' n' c'] 22)) (GivesO 5 (tagL k t) (W.alloc (.cells #[.slice A' n' c'] 22))) := by
  have := ctag_any A n c k _ 1 1 _ _ ((h.alloc (Nat.le_refl _) _).more (by simp)) hc hc2 hn (one_pts W A' n' c' t h' hc' hc2') (by rw [catP_one]; show t.length ≤ _; rw [h'.1]; exact hn') (by decide)
  rwa [catP_one] at this
theorem ver1_any (A A' At : Option Addr) (n c n' c' nt ct : Nat) (k t tg : List UInt8) (W : World) (h : Rd W W.heap.size A n k) (hc : n ≤ c) (hc2 : c ≤ 9223372036854775807) (hn : n ≤ 274877906944) (ht : Rd W W.heap.size At nt tg) (h' : Rd W W.heap.size A' n' t) (hc' : n' ≤ c') (hc2' : c' ≤ 9223372036854775807) (hn' : n' ≤ 274877906944) :
    Calls Try.prog 18 #[.slice A n c, .slice At nt ct, .slice (some ⟨W.heap.size, 0, none⟩) 1 1] (W.alloc (.cells #[.slice A' n' c'] 22)) fun e w' => e = .returned (.bool (tg == tagL k t)) ∧ Below W.heap.size W w' := by
  have := cverify_any A n c k At nt ct tg _ 1 1 _ _ ((h.alloc (Nat.le_refl _) _).more (by simp)) hc hc2 hn ((ht.alloc (Nat.le_refl _) _).more (by simp)) (one_pts W A' n' c' t h' hc' hc2') (by rw [catP_one]; show t.length ≤ _; rw [h'.1]; exact hn') (by decide)
  rw [catP_one] at this
  exact this.mono fun e w' ⟨he, hb⟩ => ⟨he, ((Below.refl _ W).alloc (Nat.le_refl _) _).trans (hb.mono (by simp))⟩
theorem tag2_any (A A1 A2 : Option Addr) (n c n1 c1 n2 c2 : Nat) (k t1 t2 : List UInt8) (W : World) (h : Rd W W.heap.size A n k) (hc : n ≤ c) (hc2 : c ≤ 9223372036854775807) (hn : n ≤ 274877906944) (h1 : Rd W W.heap.size A1 n1 t1 ∧ n1 ≤ c1 ∧ c1 ≤ 9223372036854775807) (h2 : Rd W W.heap.size A2 n2 t2 ∧ n2 ≤ c2 ∧ c2 ≤ 9223372036854775807) (hz : (t1 ++ t2).length ≤ 274877906944) :
    Calls Try.prog 11 #[.slice A n c, .slice (some ⟨W.heap.size, 0, none⟩) 2 2] (W.alloc (.cells #[.slice A1 n1 c1, .slice A2 n2 c2] 22)) (GivesO 5 (tagL k (t1 ++ t2)) (W.alloc (.cells #[.slice A1 n1 c1, .slice A2 n2 c2] 22))) := by
  have hp := ptsF_lit W 22 [⟨A1, n1, c1, t1⟩, ⟨A2, n2, c2, t2⟩] #[.slice A1 n1 c1, .slice A2 n2 c2] rfl 2 rfl (fun p hp => by
    simp only [List.mem_cons, List.not_mem_nil, or_false] at hp
    rcases hp with rfl | rfl
    · exact h1
    · exact h2)
  have := ctag_any A n c k _ 2 2 _ _ ((h.alloc (Nat.le_refl _) _).more (by simp)) hc hc2 hn hp (by rw [catP_two]; exact hz) (by decide)
  rwa [catP_two] at this

/-- append of bytes onto an own slice where the operation stands under a guard that holds. -/
theorem wpList_appBG {P : Program} {w : World} {ops : Array Oper} {rest : List Oper} {o : Oper} {a : Act} {Q : Exit → Act → World → Prop} (hw : Region.wanted o (yielded ops a.tmps) = true) (s x : Operand) (t : TypeId)
    (ho : o.op = .call { callee := .builtin .append, args := #[s, x], argTypes := #[t, t] })
    (base : Nat) (e : TypeId) (ht : P.underlying t = some (.slice e)) (hinfo : (P.info? e).map (fun i => (i.zero, i.size, i.bytes)) = some (some (.int .u8 0), 1, 1))
    (v : Value) (l : List UInt8) (hs : a.eval s = v) (hown : Ob w base e v l) (B : Nat) (A : Option Addr) (m c : Nat) (news : List UInt8) (hx : a.eval x = .slice A m c) (hr : Rd w B A m news)
    (hbound : l.length + m ≤ 140737488355328) (hbase : base ≤ w.heap.size)
    (h : ∀ v' w', Ob w' base e v' (l ++ news) → Below base w w' → wpList P ops Q rest (a.put o.dst v') w') : wpList P ops Q (o :: rest) a w := by
  refine wpList_step fun K hK => ?_
  rw [if_pos hw]
  obtain ⟨v', w', hrun, h2, h3, h4⟩ := run_app (P := P) w base t o.type e ht hinfo v l hown B A m c news hr hbound hbase
  unfold Oper.wp execOp
  simp only [ho, resolve, invoke, builtin, Sem.run_bind, Sem.run_pure, Result.andThen_ok, List.map_toArray, List.map_cons, List.map_nil, hs, hx, hrun]
  exact hK _ _ (h v' w' h2 ⟨h3.os, h3.tape, h3.output, h3.size, fun k hk => h3.block k (by omega) (fun e => by have := (World.ownsRow.lt hown k e.symm).1; omega)⟩)

/-- The law's own test of sizes. -/
theorem small_any (A A' : Option Addr) (n c n' c' : Nat) (w : World) (hn : n ≤ 140737488355328) (hn' : n' ≤ 140737488355328) :
    Calls Try.prog 13 #[.slice A n c, .slice A' n' c'] w fun e w' => e = .returned (.bool (decide (n ≤ 2000) && decide (n' ≤ 2000))) ∧ w = w' := by
  by_cases h : n ≤ 2000
  · have e0 : (n : Int) ≤ 2000 := by omega
    by_cases h' : n' ≤ 2000
    · have e1 : (n' : Int) ≤ 2000 := by omega
      rw [decide_eq_true h, decide_eq_true h']
      clear h h'
      go_enter Try.func13, Try.ntmps13
      go_wp2
      go_ret
      exact ⟨rfl, rfl⟩
    · have e1 : ¬ (n' : Int) ≤ 2000 := by omega
      rw [decide_eq_true h, decide_eq_false h']
      clear h h'
      go_enter Try.func13, Try.ntmps13
      go_wp2
      go_ret
      exact ⟨rfl, rfl⟩
  · have e0 : ¬ (n : Int) ≤ 2000 := by omega
    rw [decide_eq_false h, Bool.false_and]
    clear h
    go_enter Try.func13, Try.ntmps13
    go_wp2
    go_ret
    exact ⟨rfl, rfl⟩
end Go.Proofs.Ytllodapnbdbpeaa
