/- A row made wider: queues of [2]int. (Made by gen/bagi.py.) -/
import Derived.Test.YtkflekaibfkicaaBagI
import Derived.Test.YtkflekaibfkicaaBagCt
namespace Go.Proofs.Ytkflekaibfkicaa
open Go.RowKit Go.Conc

theorem ttake_cons (w : World) {c cap : Nat} {v : Value} {vs : List Value} (h : ChAt w c cap (v :: vs)) : Calls Try.prog 37 #[.chan (some c)] w fun e w' => e = .returned (.tuple #[v, .bool true]) ∧ Set1 w w' c cap vs := by
  obtain ⟨s, r, h⟩ := h
  refine (ttake_some w h (v := v) (by simp) (by simp)).mono ?_
  rintro e w' ⟨rfl, rfl⟩
  have e1 : (v :: vs).toArray.extract 1 (v :: vs).toArray.size = vs.toArray := by simp
  rw [e1]
  exact ⟨rfl, Set1.mk_ h vs s (r + 1)⟩
theorem ttake_empty (w : World) {c cap : Nat} (h : ChAt w c cap []) : Calls Try.prog 37 #[.chan (some c)] w fun e w' => e = .returned (.tuple #[.pointer none, .bool false]) ∧ w = w' := by
  obtain ⟨s, r, h⟩ := h
  refine (ttake_none w h).mono ?_
  rintro e w' ⟨rfl, rfl⟩
  exact ⟨rfl, rfl⟩
theorem tput_at (w : World) {c cap : Nat} {A : Option Addr} {vs : List Value} (h : ChAt w c cap vs) (hr : vs.length < cap) : Calls Try.prog 34 #[.chan (some c), .pointer A] w fun e w' => e = .returned (.bool true) ∧ Set1 w w' c cap (vs ++ [.pointer A]) := by
  obtain ⟨s, r, h⟩ := h
  refine (tput_room w A h (by simpa using hr)).mono ?_
  rintro e w' ⟨rfl, rfl⟩
  have e1 : vs.toArray.push (.pointer A) = (vs ++ [Value.pointer A]).toArray := by simp
  rw [e1]
  exact ⟨rfl, Set1.mk_ h _ (s + 1) r⟩
theorem tput_no (w : World) {c cap : Nat} {A : Option Addr} {vs : List Value} (h : ChAt w c cap vs) (hr : cap ≤ vs.length) : Calls Try.prog 34 #[.chan (some c), .pointer A] w fun e w' => e = .returned (.bool false) ∧ w = w' := by
  obtain ⟨s, r, h⟩ := h
  refine (tput_full w A h (by simpa using hr)).mono ?_
  rintro e w' ⟨rfl, rfl⟩
  exact ⟨rfl, rfl⟩
theorem tmk (w : World) (n : Nat) (hn : n ≤ 4000) : (Instr.makeChan 51 (.int .i64 n)).run Try.prog w = .ok (.chan (some w.heap.size)) (w.alloc (.chan n #[] false 0 0 false)) := by
  have h : (Try.prog.info? 87).map (·.bytes) = some 8 := by kernel_rfl
  obtain ⟨i, hi, hb⟩ := Option.map_eq_some_iff.1 h
  exact run_makeChan (P := Try.prog) (w := w) Try.underlying51 hi .i64 n (by omega) (by rw [hb]; omega)

set_option maxRecDepth 100000 in
set_option maxHeartbeats 1000000 in
theorem twider_nil (w : World) : Calls Try.prog 35 #[.chan none] w fun e w' => e = .returned (.chan (some w.heap.size)) ∧ ChAt w' w.heap.size 4 [] ∧ Below w.heap.size w w' := by
  have hcap : ∀ ty W, (Builtin.cap_ #[51] ty #[.chan none]).run Try.prog W = .ok (.int .i64 0) W := fun ty W => by simp [Builtin.cap_, run_underlying Try.underlying51, goInt]
  have hmk : (Instr.makeChan 51 (.int .i64 4)).run Try.prog w = .ok (.chan (some w.heap.size)) (w.alloc (.chan 4 #[] false 0 0 false)) := tmk w 4 (by omega)
  have C1 := Lib.hid (ttake_nil (w.alloc (.chan 4 #[] false 0 0 false)))
  go_enter Try.func35, Try.ntmps35
  go_wp2_with (first | (go_at_call 37; refine C1.out.mono ?_; rintro e w' ⟨rfl, rfl⟩) | fail)
  go_loopw [5] (fun k wr => k = .bool false ∧ wr = w.alloc (.chan 4 #[] false 0 0 false)) (fun _ _ => 0)
  case atStart => exact ⟨rfl, rfl⟩
  case round =>
    obtain ⟨rfl, rfl⟩ := hrel
    go_wp2_with fail
    refine bodyPost_ret (v := .chan (some w.heap.size)) (by simp [results, Try.results35, go_sem]) rfl ?_
    exact ⟨rfl, ⟨0, 0, heap_alloc_new w _⟩, (Below.refl _ _).alloc (Nat.le_refl _) _⟩

/-- Where the loop of wider stands: what is done, what is to come. -/
def tWd (w wr : World) (c cap cap' : Nat) (vs : List Value) (x k : Value) : Prop :=
  ∃ done rest : List Value, ChAt wr w.heap.size cap' done ∧ ChAt wr c cap rest ∧ (∀ B g, B ≤ c → Kp true B g w wr) ∧
    ((∃ A, x = .pointer A ∧ k = .bool true ∧ vs = done ++ .pointer A :: rest) ∨ (x = .pointer none ∧ k = .bool false ∧ vs = done ∧ rest = []))

set_option maxRecDepth 100000 in
set_option maxHeartbeats 1000000 in
theorem twider_some (w : World) {c cap : Nat} {vs : List Value} (h : ChAt w c cap vs) (hcap4 : 2 * cap + 4 ≤ 4000) (hvs : vs.length ≤ cap) (hp : ∀ v ∈ vs, ∃ A, v = .pointer A) :
    Calls Try.prog 35 #[.chan (some c)] w fun e w' => e = .returned (.chan (some w.heap.size)) ∧ ChAt w' w.heap.size (2 * cap + 4) vs ∧ ChAt w' c cap [] ∧ ∀ B g, B ≤ c → Kp true B g w w' := by
  have hcl := h.lt
  have hcap : ∀ ty, (Builtin.cap_ #[51] ty #[.chan (some c)]).run Try.prog w = .ok (.int .i64 (cap : Int)) w := fun ty => by
    obtain ⟨s, r, h⟩ := h
    exact run_cap_chan 51 ty Try.underlying51 h
  obtain ⟨M, hM⟩ : ∃ M, M = 2 * cap + 4 := ⟨_, rfl⟩
  have hm1 : IntKind.wrap .i64 (2 * (cap : Int)) = 2 * (cap : Int) := by rw [IntKind.wrap_i64]; omega
  have hm2 : IntKind.wrap .i64 (2 * (cap : Int) + 4) = (M : Int) := by rw [IntKind.wrap_i64]; omega
  have hm3 : wrap64 (2 * (cap : Int)) = 2 * (cap : Int) := by unfold wrap64; omega
  have hm4 : wrap64 (2 * (cap : Int) + 4) = (M : Int) := by unfold wrap64; omega
  have hmk := tmk w M (by omega)
  rw [← hM]
  have HP := Lib.hid hp
  have HC := Lib.hid hcl
  have HV : Hid (vs.length < M) := by show _ < _; omega
  have HA : Hid (ChAt (w.alloc (.chan M #[] false 0 0 false)) c cap vs) := h.below ((Below.refl _ _).alloc (Nat.le_refl _) _)
  have HN : Hid (ChAt (w.alloc (.chan M #[] false 0 0 false)) w.heap.size M []) := ⟨0, 0, heap_alloc_new w _⟩
  have HK : Hid (∀ B g, B ≤ c → Kp true B g w (w.alloc (.chan M #[] false 0 0 false))) := fun B g hB => Kp.alloc (by omega) _
  clear h hcap4 hvs hp hcl hM
  have HT : Hid (Calls Try.prog 37 #[.chan (some c)] (w.alloc (.chan M #[] false 0 0 false)) fun e w' => ∃ x k, e = .returned (.tuple #[x, k]) ∧ tWd w w' c cap M vs x k) := by
    rcases vs with _ | ⟨v, vs⟩
    · refine (ttake_empty _ HA.out).mono ?_
      rintro e w' ⟨rfl, rfl⟩
      exact ⟨_, _, rfl, [], [], HN.out, HA.out, HK.out, .inr ⟨rfl, rfl, rfl, rfl⟩⟩
    · obtain ⟨A, rfl⟩ := HP.out v (by simp)
      refine (ttake_cons _ HA.out).mono ?_
      rintro e w' ⟨rfl, hs⟩
      refine ⟨_, _, rfl, [], vs, ?_, hs.at_, fun B g hB => (HK.out B g hB).trans (hs.kp B g hB), .inl ⟨A, rfl, rfl, rfl⟩⟩
      obtain ⟨s, r, hn⟩ := HN.out
      exact ⟨s, r, by rw [hs.ne _ (by have := HC.out; omega)]; exact hn⟩
  go_enter Try.func35, Try.ntmps35
  go_wp2_with (first | (go_at_call 37; refine HT.out.mono ?_; rintro e w1 ⟨x, k, rfl, h1⟩) | fail)
  clear HA HN HK HT
  have H1 := Lib.hid h1
  clear h1
  go_loopw [4, 5] (fun x k wr => tWd w wr c cap M vs x k) (fun x k wr => left1 wr c + okN k)
  case atStart => exact H1.out
  case round =>
    obtain ⟨done, rest, hd, hr, hk, hx⟩ := hrel
    have HK := Lib.hid hk
    clear H1 hk
    rcases hx with ⟨A, rfl, rfl, rfl⟩ | ⟨rfl, rfl, rfl, rfl⟩
    · have hlen : done.length < M := by have := HV.out; simp at this; omega
      have C2 := Lib.hid (tput_at wr hd hlen (A := A))
      have HR := Lib.hid hr
      clear hd hr hlen
      go_wp2_with (first
        | (go_at_call 34; refine C2.out.mono ?_; rintro e w2 ⟨rfl, hs2⟩)
        | fail)
      have hr2 : ChAt w2 c cap rest := by
        obtain ⟨s, r, hh⟩ := HR.out
        exact ⟨s, r, by rw [hs2.ne _ (by have := HC.out; omega)]; exact hh⟩
      have HT : Hid (Calls Try.prog 37 #[.chan (some c)] w2 fun e w' => ∃ x k, e = .returned (.tuple #[x, k]) ∧ tWd w w' c cap M (done ++ .pointer A :: rest) x k ∧ left1 w' c + okN k < left1 wr c + 1) := by
        have hk2 : ∀ B g, B ≤ c → Kp true B g w w2 := fun B g hB => (HK.out B g hB).trans (hs2.kp B g (by have := HC.out; omega))
        have hl : left1 wr c = rest.length := left1_at HR.out
        rcases rest with _ | ⟨v, rest⟩
        · refine (ttake_empty _ hr2).mono ?_
          rintro e w' ⟨rfl, rfl⟩
          exact ⟨_, _, rfl, ⟨_, [], hs2.at_, hr2, hk2, .inr ⟨rfl, rfl, rfl, rfl⟩⟩, by rw [left1_at hr2, hl]; exact Nat.lt_succ_self _⟩
        · obtain ⟨A', rfl⟩ := HP.out v (by simp)
          refine (ttake_cons _ hr2).mono ?_
          rintro e w' ⟨rfl, hs⟩
          refine ⟨_, _, rfl, ⟨done ++ [.pointer A], rest, ?_, hs.at_, fun B g hB => (hk2 B g hB).trans (hs.kp B g hB), .inl ⟨A', rfl, rfl, by rw [List.append_assoc]; rfl⟩⟩, by rw [left1_at hs.at_, hl]; exact Nat.lt_succ_self _⟩
          obtain ⟨s, r, hn⟩ := hs2.at_
          exact ⟨s, r, by rw [hs.ne _ (by have := HC.out; omega)]; exact hn⟩
      clear hs2 hr2 C2 HR HK
      go_wp2_with (first
        | (go_at_call 37; refine HT.out.mono ?_; rintro e w3 ⟨x', k', rfl, h3, hm⟩)
        | fail)
      have H3 := Lib.hid (And.intro h3 hm)
      clear h3 hm
      go_roundw
      case rel => exact H3.out.1
      case measure => exact H3.out.2
    · go_wp2_with fail
      refine bodyPost_ret (v := .chan (some w.heap.size)) (by simp [results, Try.results35, go_sem]) rfl ?_
      exact ⟨rfl, hd, hr, HK.out⟩
end Go.Proofs.Ytkflekaibfkicaa
