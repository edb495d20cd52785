/- Words for queues. -/
import Derived.Test.YtkflekaibfkicaaBagI
namespace Go.Proofs.Ytkflekaibfkicaa
open Go.RowKit Go.Conc

theorem Chn.at_ {B c cap g q : Nat} {w : World} {vs : List Value} {l : List (List Value)} (hB : B ≤ c) (h : ChAt w c cap vs) (h1 : vs.length ≤ cap) (h2 : cap ≤ 4000) (h3 : Els w g q vs l) : Chn B w g q (.chan (some c)) l := .inr ⟨c, cap, vs, rfl, hB, h, h1, h2, h3⟩
/-- Is there no room in the queue's channel? -/
def full1 (w : World) (g : Nat) : Nat := match w.cell? ⟨g, 0, none⟩ with | some (.chan (some c)) => (match w.heap[c]? with | some (.chan cap b _ _ _ _) => if b.size < cap then 0 else 1 | _ => 1) | _ => 1
theorem full1_0 {w : World} {g c cap : Nat} {vs : List Value} (h : w.cell? ⟨g, 0, none⟩ = some (.chan (some c))) (hc : ChAt w c cap vs) (hr : vs.length < cap) : full1 w g = 0 := by
  obtain ⟨s, r, hc⟩ := hc
  unfold full1
  simp [h, hc, hr]
theorem full1_1 {w : World} {g c cap : Nat} {vs : List Value} (h : w.cell? ⟨g, 0, none⟩ = some (.chan (some c))) (hc : ChAt w c cap vs) (hr : cap ≤ vs.length) : full1 w g = 1 := by
  obtain ⟨s, r, hc⟩ := hc
  unfold full1
  have : ¬ vs.length < cap := by omega
  simp [h, hc, this]
theorem full1_n {w : World} {g : Nat} (h : w.cell? ⟨g, 0, none⟩ = some (.chan none)) : full1 w g = 1 := by
  unfold full1
  simp [h]
theorem chan_ne_cell {w : World} {g c cap : Nat} {vs : List Value} {v : Value} (h : w.cell? ⟨g, 0, none⟩ = some v) (hc : ChAt w c cap vs) : g ≠ c := by
  obtain ⟨s, r, hc⟩ := hc
  rintro rfl
  unfold World.cell? at h
  rw [hc] at h
  simp at h
theorem Els.ptr {w : World} {g q : Nat} : ∀ {vs : List Value} {xs : List (List Value)}, Els w g q vs xs → ∀ v ∈ vs, ∃ A, v = .pointer A
  | [], [], _, v, hv => by simp at hv
  | _ :: _, _ :: _, h, v, hv => by
    rcases List.mem_cons.1 hv with rfl | hv
    · obtain ⟨b, rfl, _⟩ := h.1
      exact ⟨_, rfl⟩
    · exact Els.ptr h.2 v hv
  | [], _ :: _, h, _, _ => h.elim
  | _ :: _, [], h, _, _ => h.elim
end Go.Proofs.Ytkflekaibfkicaa
