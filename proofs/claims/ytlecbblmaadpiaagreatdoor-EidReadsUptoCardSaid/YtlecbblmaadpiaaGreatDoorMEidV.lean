/- What the listed variables give: the four sentinels of layer 4, and strconv's two; and a world that holds them all. -/
import Derived.Test.YtlecbblmaadpiaaGreatDoorMEidC2
import Derived.Test.YtlecbblmaadpiaaGreatDoorCards
import Derived.Test.YtlecbblmaadpiaaGreatDoorTie
import Derived.LaidLaws
import Derived.Lay
import Derived.LaidSub
import Derived.ChangeArms
namespace Go.Proofs.YtlecbblmaadpiaaGreatDoor
open Go.RowKit
def laidL : List (String × DataW Unit) := [("math/bits.deBruijn32tab", Rows.laid_math_bits_deBruijn32tab), ("math/bits.deBruijn64tab", Rows.laid_math_bits_deBruijn64tab), ("internal/strconv.uint64pow10", Rows.laid_internal_strconv_uint64pow10), ("strconv.ErrRange", Rows.laid_strconv_ErrRange), ("strconv.ErrSyntax", Rows.laid_strconv_ErrSyntax), ("fairlead/eid.errScheme", Rows.laid_fairlead_eid_errScheme), ("fairlead/eid.errName", Rows.laid_fairlead_eid_errName), ("fairlead/eid.errNumber", Rows.laid_fairlead_eid_errNumber), ("fairlead/eid.errForm", Rows.laid_fairlead_eid_errForm)]
theorem gS : Tryz.prog.globalNamed "fairlead/eid.errScheme" = some 0 := by kernel_rfl
theorem gN : Tryz.prog.globalNamed "fairlead/eid.errName" = some 1 := by kernel_rfl
theorem gU : Tryz.prog.globalNamed "fairlead/eid.errNumber" = some 2 := by kernel_rfl
theorem gF : Tryz.prog.globalNamed "fairlead/eid.errForm" = some 3 := by kernel_rfl
theorem gY : Tryz.prog.globalNamed "strconv.ErrSyntax" = some 6 := by kernel_rfl
theorem gZ : Tryz.prog.globalNamed "strconv.ErrRange" = some 7 := by kernel_rfl
theorem gtS : (Tryz.prog.globals[0]?).map (·.type) = some 95 := by kernel_rfl
theorem gtN : (Tryz.prog.globals[1]?).map (·.type) = some 95 := by kernel_rfl
theorem gtU : (Tryz.prog.globals[2]?).map (·.type) = some 95 := by kernel_rfl
theorem gtF : (Tryz.prog.globals[3]?).map (·.type) = some 95 := by kernel_rfl
theorem gtY : (Tryz.prog.globals[6]?).map (·.type) = some 95 := by kernel_rfl
theorem gtZ : (Tryz.prog.globals[7]?).map (·.type) = some 95 := by kernel_rfl
theorem cellsEs : Tryz.prog.cellsOf 281 = 1 := by kernel_rfl
theorem cellsSt : Tryz.prog.cellsOf 9 = 1 := by kernel_rfl
theorem starE : "*" ++ "errors.errorString" = "*errors.errorString" := by decide
theorem rowE (u : TypeId) (h : Tryz.prog.typeName? 3 u = some "*errors.errorString") : u = 279 :=
  typeName_ptr_named (nm := "errors.errorString") (by rw [starE]; kernel_rfl) (by kernel_rfl) (by decide) u (by rw [starE]; exact h)
set_option maxRecDepth 1000000 in
theorem one_of {W : World} {n : String} {g : Nat} {text : List UInt8} {t : TypeId} {cs : Array Value} {fuel : Nat} {p : List MemPlace} {ps : List MemPlace}
    (hg : Tryz.prog.globalNamed n = some g) (ht : (Tryz.prog.globals[g]?).map (·.type) = some 95) (ht' : (Tryz.prog.globals[g]?).map (·.type) = some t) (hv : W.var? Tryz.prog n = some cs)
    (hd : DataW.trod (fun _ => ()) Tryz.prog W 0 (fun _ => true) false fuel t cs.toList = some (.iface "*errors.errorString" (.ptr (.agg [.lit (.string text)])), p))
    (hrows : ∀ b off, MemPlace.cell b off ∈ ps → (∃ c t, W.heap[b]? = some (.cells c t (0, 0))) ∧ ∀ u v, W.cell? ⟨b, off, none⟩ = some (.iface u v) → Value.okWide Tryz.prog W .any 0 u v)
    (hin : ∀ x ∈ MemPlace.row ⟨g, 0, none⟩ cs.size ++ p, x ∈ ps) :
    ∃ a : Addr, cs = #[snt a] ∧ p = MemPlace.row a 1 ∧ W.cell? ⟨g, 0, none⟩ = some (snt a) ∧ ∃ c t, W.heap[a.block]? = some (.cells c t (0, 0)) := by
  obtain rfl := Option.some.inj (ht.symm.trans ht')
  obtain ⟨l⟩ := cs
  have ok : ∀ u v, l = [.iface u v] → Value.okWide Tryz.prog W .any 0 u v := fun u v e => by
    subst e
    exact (hrows g 0 (hin _ (by simp [MemPlace.row]))).2 u v (by simpa using World.var?_cell hg hv 0)
  obtain ⟨a, s, rfl, hc, -, -, rfl⟩ := errorString_of_trod Tryz.underlying95 rowE Tryz.underlying279 Tryz.underlying281 rfl rfl Tryz.underlying9 cellsEs cellsSt hd ok
  obtain ⟨c, t, hb⟩ := (hrows a.block a.off (hin _ (by simp [MemPlace.row]))).1
  exact ⟨a, rfl, rfl, by simpa [snt] using World.var?_cell hg hv 0, c, t, hb⟩
set_option maxRecDepth 1000000 in
theorem lds_of {W : World} (h : laidMet Tryz.prog laidL W) : ∃ A, Lds A W := by
  obtain ⟨ps, hv, hnd, hrows⟩ := h
  unfold laidL at hv
  simp only [DataW.LaidVars] at hv
  obtain ⟨g1, t1, c1, f1, p1, q1, -, -, -, -, ⟨g2, t2, c2, f2, p2, q2, -, -, -, -, ⟨g3, t3, c3, f3, p3, q3, -, -, -, -, ⟨g4, t4, c4, f4, p4, q4, hg4, ht4, hw4, hd4, ⟨g5, t5, c5, f5, p5, q5, hg5, ht5, hw5, hd5, ⟨g6, t6, c6, f6, p6, q6, hg6, ht6, hw6, hd6, ⟨g7, t7, c7, f7, p7, q7, hg7, ht7, hw7, hd7, ⟨g8, t8, c8, f8, p8, q8, hg8, ht8, hw8, hd8, ⟨g9, t9, c9, f9, p9, q9, hg9, ht9, hw9, hd9, e9, e8'⟩, e8⟩, e7⟩, e6⟩, e5⟩, e4⟩, e3⟩, e2⟩, e1⟩ := hv
  obtain rfl := Option.some.inj (gZ.symm.trans hg4)
  obtain rfl := Option.some.inj (gY.symm.trans hg5)
  obtain rfl := Option.some.inj (gS.symm.trans hg6)
  obtain rfl := Option.some.inj (gN.symm.trans hg7)
  obtain rfl := Option.some.inj (gU.symm.trans hg8)
  obtain rfl := Option.some.inj (gF.symm.trans hg9)
  subst e9 e8' e8 e7 e6 e5 e4 e3 e2 e1
  obtain ⟨a4, rfl, rfl, k4, -⟩ := one_of gZ gtZ ht4 hw4 hd4 hrows (fun x hx => by simp only [List.mem_append] at hx ⊢; rcases hx with h | h <;> simp only [h, true_or, or_true])
  obtain ⟨a5, rfl, rfl, k5, -⟩ := one_of gY gtY ht5 hw5 hd5 hrows (fun x hx => by simp only [List.mem_append] at hx ⊢; rcases hx with h | h <;> simp only [h, true_or, or_true])
  obtain ⟨a6, rfl, rfl, k6, r6⟩ := one_of gS gtS ht6 hw6 hd6 hrows (fun x hx => by simp only [List.mem_append] at hx ⊢; rcases hx with h | h <;> simp only [h, true_or, or_true])
  obtain ⟨a7, rfl, rfl, k7, r7⟩ := one_of gN gtN ht7 hw7 hd7 hrows (fun x hx => by simp only [List.mem_append] at hx ⊢; rcases hx with h | h <;> simp only [h, true_or, or_true])
  obtain ⟨a8, rfl, rfl, k8, r8⟩ := one_of gU gtU ht8 hw8 hd8 hrows (fun x hx => by simp only [List.mem_append] at hx ⊢; rcases hx with h | h <;> simp only [h, true_or, or_true])
  obtain ⟨a9, rfl, rfl, k9, r9⟩ := one_of gF gtF ht9 hw9 hd9 hrows (fun x hx => by simp only [List.mem_append] at hx ⊢; rcases hx with h | h <;> simp only [h, true_or, or_true])
  have n5 := (List.nodup_append.1 (List.nodup_append.1 (List.nodup_append.1 (List.nodup_append.1 (List.nodup_append.1 hnd).2.1).2.1).2.1).2.1).2.1
  simp [MemPlace.row] at n5
  refine ⟨⟨a6, a7, a8, a9⟩, k6, k7, k8, k9, ?_, ?_, ⟨_, _, k5⟩, ⟨_, _, k4⟩⟩
  · rintro a (rfl | rfl | rfl | rfl)
    · exact r6
    · exact r7
    · exact r8
    · exact r9
  · refine ⟨fun e => ?_, fun e => ?_, fun e => ?_, fun e => ?_, fun e => ?_, fun e => ?_⟩ <;> (dsimp only at e; subst e; simp at n5)
noncomputable def laidW (os : Os) : World := World.laidAll Tryz.prog os laidL
theorem laidW_met (os : Os) (args : Array Value) : laidMet Tryz.prog laidL ((laidW os).forCall (fun _ _ => 0) ⟨#[], args, []⟩).memory :=
  laidMet_laidAll args (by kernel_rfl) (by kernel_rfl)
theorem laidH {W : World} (h : laidMetH Tryz.prog laidL W) : laidMet Tryz.prog laidL W := by
  have h1 := (laidMetH_iff.1 h).1
  rwa [show (laidL.filter fun x => x.2.handleName?.isNone) = laidL from by kernel_rfl] at h1
theorem laidW_metH (os : Os) (args : Array Value) : laidMetH Tryz.prog laidL ((laidW os).forCall (fun _ _ => 0) ⟨#[], args, []⟩).memory := by
  unfold laidMetH
  rw [show (laidL.filter fun x => x.2.handleName?.isSome) = [] from by kernel_rfl]
  exact laidW_met os args
theorem cellsEid : Tryz.prog.cellsOf 25 = 4 := by kernel_rfl
theorem wf_u64_ {n : Int} (h : (Lit.int .u64 n).wf = true) : 0 ≤ n ∧ n < 18446744073709551616 := by
  simp [Lit.wf, IntKind.min, IntKind.max, IntKind.signed, IntKind.bits] at h
  omega
end Go.Proofs.YtlecbblmaadpiaaGreatDoor
