/- The plain mathematics of layer 3: an item gone through by a stack of lists. No program's number stands here. -/
import Derived.Test.YtcbolbdfdapidaaDoorCborQ
import Derived.Test.YtcbolbdfdapidaaDoorCborO
namespace Go.Proofs.YtcbolbdfdapidaaDoor

def rall : List (List Itm) → Bool | [] => true | l :: r => rights l && rall r
def sump : List (List Itm) → Nat | [] => 0 | l :: r => pars l + sump r
/-- How deep what lies in a stack's lists is; i: the first list's level. -/
def lev : Nat → List (List Itm) → Nat | _, [] => 0 | i, l :: r => max (i + deps l) (lev (i + 1) r)
theorem rall_snoc : ∀ (a : List (List Itm)) (t : List Itm), rall (a ++ [t]) = (rall a && rights t)
  | [], t => by simp [rall]
  | l :: r, t => by rw [List.cons_append, rall, rall, rall_snoc r t, Bool.and_assoc]
theorem sump_snoc : ∀ (a : List (List Itm)) (t : List Itm), sump (a ++ [t]) = sump a + pars t
  | [], t => by simp [sump]
  | l :: r, t => by rw [List.cons_append, sump, sump, sump_snoc r t]; omega
theorem lev_snoc : ∀ (a : List (List Itm)) (t : List Itm) (i : Nat), lev i (a ++ [t]) = max (lev i a) (i + a.length + deps t)
  | [], t, i => by simp [lev]
  | l :: r, t, i => by rw [List.cons_append, lev, lev, lev_snoc r t, List.length_cons]; omega

/-- What is left of the item x, where p items were taken and the greatest level was D. -/
structure ChkSt (x : Itm) (st : List (List Itm)) (p D : Nat) : Prop where
  rt : right x = rall st
  pr : par x = p + sump st
  dp : dep x = max D (lev 0 st)
  ln : st.length ≤ D + 1
  lp : st.length ≤ p + 1
theorem ChkSt.start (x : Itm) : ChkSt x [[x]] 0 0 := by
  refine ⟨?_, ?_, ?_, ?_, ?_⟩
  · simp [rall, rights]
  · simp [sump, pars]
  · simp [lev, deps]
  · simp
  · simp
theorem ChkSt.pop {x : Itm} {a : List (List Itm)} {p D : Nat} (h : ChkSt x (a ++ [[]]) p D) : ChkSt x a p D := by
  have h1 := h.rt
  have h2 := h.pr
  have h3 := h.dp
  have h4 := h.ln
  have h5 := h.lp
  rw [rall_snoc, rights, Bool.and_true] at h1
  rw [sump_snoc, pars] at h2
  rw [lev_snoc, deps] at h3
  rw [List.length_append, List.length_singleton] at h4 h5
  exact ⟨h1, by omega, by omega, by omega, by omega⟩
theorem ChkSt.bad {x : Itm} {a : List (List Itm)} {p D : Nat} {k : Int} {n : Nat} {d : List UInt8} {l r : List Itm} (h : ChkSt x (a ++ [.mk k n d l :: r]) p D) (ho : own k n d l = false) : right x = false := by
  rw [h.rt, rall_snoc, rights, right, ho]
  simp
theorem own_flat {k : Int} {n : Nat} {d : List UInt8} {l : List Itm} (h : own k n d l = true) (hk : ¬ (k = 4 ∨ k = 5)) : l = [] := by
  unfold own at h
  rw [if_neg hk] at h
  split at h
  · simp at h; exact h.2
  split at h
  · simp at h; exact h.2
  split at h
  · simp at h; exact h.2.1
  · cases h
theorem ChkSt.flat {x : Itm} {a : List (List Itm)} {p D : Nat} {k : Int} {n : Nat} {d : List UInt8} {l r : List Itm} (h : ChkSt x (a ++ [.mk k n d l :: r]) p D) (ho : own k n d l = true) (hk : ¬ (k = 4 ∨ k = 5)) : ChkSt x (a ++ [r]) (p + 1) D := by
  have hl := own_flat ho hk
  subst hl
  have h1 := h.rt
  have h2 := h.pr
  have h3 := h.dp
  have h4 := h.ln
  have h5 := h.lp
  rw [rall_snoc, rights, right, ho, rights, Bool.and_self, Bool.true_and] at h1
  rw [sump_snoc, pars, par, pars] at h2
  rw [lev_snoc, deps, dep, if_neg hk, deps] at h3
  rw [List.length_append, List.length_singleton] at h4 h5
  refine ⟨?_, ?_, ?_, ?_, ?_⟩
  · rw [h1, rall_snoc]
  · rw [sump_snoc]; omega
  · rw [lev_snoc]; omega
  · rw [List.length_append, List.length_singleton]; omega
  · rw [List.length_append, List.length_singleton]; omega
theorem ChkSt.arr {x : Itm} {a : List (List Itm)} {p D : Nat} {k : Int} {n : Nat} {d : List UInt8} {l r : List Itm} (h : ChkSt x (a ++ [.mk k n d l :: r]) p D) (ho : own k n d l = true) (hk : k = 4 ∨ k = 5) : ChkSt x (a ++ [r] ++ [l]) (p + 1) (max D (a.length + 1)) := by
  have h1 := h.rt
  have h2 := h.pr
  have h3 := h.dp
  have h4 := h.ln
  have h5 := h.lp
  rw [rall_snoc, rights, right, ho, Bool.true_and] at h1
  rw [sump_snoc, pars, par] at h2
  rw [lev_snoc, deps, dep, if_pos hk] at h3
  rw [List.length_append, List.length_singleton] at h4 h5
  refine ⟨?_, ?_, ?_, ?_, ?_⟩
  · rw [h1, rall_snoc, rall_snoc]
    cases rall a <;> cases rights r <;> cases rights l <;> rfl
  · rw [sump_snoc, sump_snoc]; omega
  · rw [lev_snoc, lev_snoc, List.length_append, List.length_singleton]; omega
  · rw [List.length_append, List.length_append, List.length_singleton, List.length_singleton]; omega
  · rw [List.length_append, List.length_append, List.length_singleton, List.length_singleton]; omega
theorem ChkSt.left {x : Itm} {a : List (List Itm)} {p D : Nat} {y : Itm} {r : List Itm} (h : ChkSt x (a ++ [y :: r]) p D) : p < par x ∧ D ≤ dep x ∧ a.length ≤ p := by
  have h2 := h.pr
  have h3 := h.dp
  have h5 := h.lp
  rw [sump_snoc, pars] at h2
  rw [List.length_append, List.length_singleton] at h5
  cases y with
  | mk k n d l =>
    rw [par] at h2
    omega
theorem ChkSt.done {x : Itm} {p D : Nat} (h : ChkSt x [] p D) : right x = true ∧ par x = p ∧ dep x = D := by
  have h1 := h.rt
  have h2 := h.pr
  have h3 := h.dp
  rw [rall] at h1
  rw [sump] at h2
  rw [lev] at h3
  exact ⟨h1, by omega, by omega⟩
end Go.Proofs.YtcbolbdfdapidaaDoor
