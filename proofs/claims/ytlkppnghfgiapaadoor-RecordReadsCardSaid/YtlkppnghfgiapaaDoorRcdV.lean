/- What the listed variables give: the two sentinels of layer 14; and a world that holds them. -/
import Derived.Test.YtlkppnghfgiapaaDoorCards
import Derived.Test.YtlkppnghfgiapaaDoorTie
import Derived.Test.YtlkppnghfgiapaaDoorRecQ
import Derived.LaidLaws
import Derived.Lay
import Derived.LaidSub
import Derived.ChangeArms
namespace Go.Proofs.YtlkppnghfgiapaaDoor
open Go.RowKit

def laidL : List (String × DataW Unit) := [("fairlead/record.errShort", Rows.laid_fairlead_record_errShort), ("fairlead/record.errRecord", Rows.laid_fairlead_record_errRecord)]
theorem gS14 : Tryd.prog.globalNamed "fairlead/record.errShort" = some 1 := by kernel_rfl
theorem gR14 : Tryd.prog.globalNamed "fairlead/record.errRecord" = some 0 := by kernel_rfl
theorem gtS14 : (Tryd.prog.globals[1]?).map (·.type) = some 49 := by kernel_rfl
theorem gtR14 : (Tryd.prog.globals[0]?).map (·.type) = some 49 := by kernel_rfl
theorem cellsEs14 : Tryd.prog.cellsOf 110 = 1 := by kernel_rfl
theorem cellsSt14 : Tryd.prog.cellsOf 9 = 1 := by kernel_rfl
theorem starE14 : "*" ++ "errors.errorString" = "*errors.errorString" := by decide
theorem rowE14 (u : TypeId) (h : Tryd.prog.typeName? 3 u = some "*errors.errorString") : u = 85 :=
  typeName_ptr_named (nm := "errors.errorString") (by rw [starE14]; kernel_rfl) (by kernel_rfl) (by decide) u (by rw [starE14]; exact h)

set_option maxRecDepth 1000000 in
/-- One sentinel's cell, and where its text lies. -/
theorem one_of14 {W : World} {n : String} {g : Nat} {text : List UInt8} {t : TypeId} {cs : Array Value} {fuel : Nat} {p : List MemPlace} {ps : List MemPlace}
    (hg : Tryd.prog.globalNamed n = some g) (ht : (Tryd.prog.globals[g]?).map (·.type) = some 49) (ht' : (Tryd.prog.globals[g]?).map (·.type) = some t) (hv : W.var? Tryd.prog n = some cs)
    (hd : DataW.trod (fun _ => ()) Tryd.prog W 0 (fun _ => true) false fuel t cs.toList = some (.iface "*errors.errorString" (.ptr (.agg [.lit (.string text)])), p))
    (hrows : ∀ b off, MemPlace.cell b off ∈ ps → (∃ c t, W.heap[b]? = some (.cells c t (0, 0))) ∧ ∀ u v, W.cell? ⟨b, off, none⟩ = some (.iface u v) → Value.okWide Tryd.prog W .any 0 u v)
    (hin : ∀ x ∈ MemPlace.row ⟨g, 0, none⟩ cs.size ++ p, x ∈ ps) :
    ∃ a : Addr, cs = #[snt14 a] ∧ p = MemPlace.row a 1 ∧ W.cell? ⟨g, 0, none⟩ = some (snt14 a) ∧ ∃ c t, W.heap[a.block]? = some (.cells c t (0, 0)) := by
  obtain rfl := Option.some.inj (ht.symm.trans ht')
  obtain ⟨l⟩ := cs
  have ok : ∀ u v, l = [.iface u v] → Value.okWide Tryd.prog W .any 0 u v := fun u v e => by
    subst e
    exact (hrows g 0 (hin _ (by simp [MemPlace.row]))).2 u v (by simpa using World.var?_cell hg hv 0)
  obtain ⟨a, s, rfl, hc, -, -, rfl⟩ := errorString_of_trod Tryd.underlying49 rowE14 Tryd.underlying85 Tryd.underlying110 rfl rfl Tryd.underlying9 cellsEs14 cellsSt14 hd ok
  obtain ⟨c, t, hb⟩ := (hrows a.block a.off (hin _ (by simp [MemPlace.row]))).1
  exact ⟨a, rfl, rfl, by simpa [snt14] using World.var?_cell hg hv 0, c, t, hb⟩

set_option maxRecDepth 1000000 in
theorem lds14_of {W : World} (h : laidMet Tryd.prog laidL W) : ∃ A, Lds14 A W := by
  obtain ⟨ps, hv, hnd, hrows⟩ := h
  unfold laidL at hv
  simp only [DataW.LaidVars] at hv
  obtain ⟨g8, t8, c8, f8, p8, q8, hg8, ht8, hw8, hd8, ⟨g9, t9, c9, f9, p9, q9, hg9, ht9, hw9, hd9, e9, e8'⟩, e8⟩ := hv
  obtain rfl := Option.some.inj (gS14.symm.trans hg8)
  obtain rfl := Option.some.inj (gR14.symm.trans hg9)
  subst e9 e8' e8
  obtain ⟨a8, rfl, rfl, k8, r8⟩ := one_of14 gS14 gtS14 ht8 hw8 hd8 hrows (fun x hx => by simp only [List.mem_append] at hx ⊢; rcases hx with h | h <;> simp only [h, true_or, or_true])
  obtain ⟨a9, rfl, rfl, k9, r9⟩ := one_of14 gR14 gtR14 ht9 hw9 hd9 hrows (fun x hx => by simp only [List.mem_append] at hx ⊢; rcases hx with h | h <;> simp only [h, true_or, or_true])
  simp [MemPlace.row] at hnd
  refine ⟨⟨a8, a9⟩, k8, k9, ?_, ?_⟩
  · rintro a (rfl | rfl)
    · exact r8
    · exact r9
  · intro e
    dsimp only at e
    subst e
    simp at hnd

noncomputable def laidW (os : Os) : World := World.laidAll Tryd.prog os laidL
theorem laidW_met (os : Os) (args : Array Value) : laidMet Tryd.prog laidL ((laidW os).forCall (fun _ _ => 0) ⟨#[], args, []⟩).memory :=
  laidMet_laidAll args (by kernel_rfl) (by kernel_rfl)
theorem laidH {W : World} (h : laidMetH Tryd.prog laidL W) : laidMet Tryd.prog laidL W := by
  have h1 := (laidMetH_iff.1 h).1
  rwa [show (laidL.filter fun x => x.2.handleName?.isNone) = laidL from by kernel_rfl] at h1
theorem laidW_metH (os : Os) (args : Array Value) : laidMetH Tryd.prog laidL ((laidW os).forCall (fun _ _ => 0) ⟨#[], args, []⟩).memory := by
  unfold laidMetH
  rw [show (laidL.filter fun x => x.2.handleName?.isSome) = [] from by kernel_rfl]
  exact laidW_met os args
end Go.Proofs.YtlkppnghfgiapaaDoor
