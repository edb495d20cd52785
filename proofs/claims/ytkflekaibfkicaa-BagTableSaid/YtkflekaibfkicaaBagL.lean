/- List of queues of int. (Made by gen/bagi.py.) -/
import Derived.Test.YtkflekaibfkicaaBagG
import Derived.Test.YtkflekaibfkicaaBagK
namespace Go.Proofs.Ytkflekaibfkicaa
open Go.RowKit Go.Conc

/-- How far List has come: l = vs's things, i of them gone round. -/
structure LsSt (B g c cap : Nat) (w wr : World) (vs : List Value) (zs : List Int) (v : Value) (i : Nat) : Prop where
  ch : ChAt wr c cap (vs.drop i ++ vs.take i)
  kp : Kp true B g w wr
  gb : wr.heap[g]? = w.heap[g]?
  ov : Ov wr w.heap.size 3 v ((zs.take i).map (Value.int .i64))

set_option maxRecDepth 100000 in
set_option maxHeartbeats 1000000 in
theorem qlist_any (w : World) {B g q : Nat} {zs : List Int} (h : QSt B w g q (zs.map fun z => [Value.int .i64 z])) (hl : zs.length ≤ 1000) (hB : B ≤ w.heap.size) :
    Calls Try.prog 20 #[.pointer (some ⟨g, 0, none⟩)] w fun e w' => ∃ v, e = .returned v ∧ Ov w' w.heap.size 3 v (zs.map (Value.int .i64)) ∧ QSt B w' g q (zs.map fun z => [Value.int .i64 z]) ∧ Kp true B g w w' := by
  have C0 := Lib.hid (qlen_any w h)
  have hlm : (zs.map fun z => [Value.int .i64 z]).length = zs.length := List.length_map ..
  rw [hlm] at C0
  obtain ⟨n, hn⟩ : ∃ n, n = zs.length := ⟨_, rfl⟩
  rw [← hn] at C0 hl
  have HN := Lib.hid hn
  have HL := Lib.hid hl
  have HW := Lib.hid (And.intro h hB)
  clear hlm hn hl h
  go_enter Try.func20, Try.ntmps20
  go_wp2_with (first
    | (go_at_call 19; refine C0.out.mono ?_; rintro e w' ⟨rfl, rfl⟩)
    | (refine wpList_mk0 _ rfl (.const (.int .i64 0)) (.tmp 9) 27 rfl w.heap.size 3 (.int .i64 0) 8 Try.underlying27 info_int (by decide) _ n rfl rfl rfl (by have := HL.out; omega) (Nat.le_refl _) ?_; intro w1 ho1 hg1; have H1 := Lib.hid (And.intro ho1 hg1); clear ho1 hg1)
    | fail)
  have HK1 : Hid (Kp true B g w w1 ∧ Below w.heap.size w w1) := ⟨(Kp.refl B g w).grown H1.out.2 HW.out.2 (by intro j hj; cases hj), ⟨H1.out.2.os, H1.out.2.tape, H1.out.2.output, H1.out.2.size, fun k hk => H1.out.2.block k hk (by simp)⟩⟩
  rcases Nat.eq_zero_or_pos n with h0 | h0
  · subst h0
    obtain rfl : zs = [] := List.eq_nil_of_length_eq_zero HN.out.symm
    go_loopw [4, 12] (fun v k wr => v = .slice (some ⟨w.heap.size, 0, none⟩) 0 0 ∧ k = .int .i64 0 ∧ wr = w1) (fun _ _ _ => 0)
    case atStart => exact ⟨rfl, rfl, rfl⟩
    case round =>
      obtain ⟨rfl, rfl, rfl⟩ := hrel
      go_wp2_with fail
      go_ret
      exact ⟨_, rfl, H1.out.1, HW.out.1.below HK1.out.2, HK1.out.1⟩
  obtain ⟨v0, hc0, hs0⟩ := HW.out.1.st
  have HQ := Lib.hid (And.intro HW.out.1.le HW.out.1.fr)
  rcases hs0 with ⟨-, h1⟩ | ⟨c, cap, vs, rfl, hBc, hch, hvc, hcap, hels⟩
  · exact absurd (congrArg List.length h1) (by simp; intro e; have := HN.out; rw [e] at this; simp at this; omega)
  have hvl : vs.length = n := by rw [hels.len, List.length_map]; exact HN.out.symm
  have hgc := chan_ne_cell hc0 hch
  have hcl := ChAt.lt hch
  have hgl := HW.out.1.lt
  have HS0 : Hid (LsSt B g c cap w w1 vs zs (.slice (some ⟨w.heap.size, 0, none⟩) 0 n) 0) := ⟨by simpa using ChAt.below hch HK1.out.2, HK1.out.1, HK1.out.2.block g hgl, by simpa using H1.out.1⟩
  have HC := Lib.hid (And.intro hBc (And.intro hvc (And.intro hcap (And.intro hels (And.intro hvl (And.intro hgc (And.intro hcl hgl)))))))
  have HC0 := Lib.hid hc0
  clear hBc hvc hcap hels hvl hgc hcl hgl hch hc0 h0 HK1 H1 C0
  go_loopw [4, 12] (fun v k wr => ∃ i : Nat, i ≤ n ∧ k = .int .i64 i ∧ LsSt B g c cap w wr vs zs v i) (fun _ k _ => n - (intOf k).toNat)
  case atStart => exact ⟨0, Nat.zero_le _, rfl, HS0.out⟩
  case round =>
    clear HS0
    obtain ⟨i, hi, rfl, hst⟩ := hrel
    have HST := Lib.hid hst
    have hcg : wr.cell? ⟨g, 0, none⟩ = some (.chan (some c)) := (World.cell?_of_block (w := w) (a := ⟨g, 0, none⟩) hst.gb).trans HC0.out
    clear hst
    by_cases hlt : i < n
    · have tn : (i : Int) < (n : Int) := by omega
      have hvi : i < vs.length := by rw [HC.out.2.2.2.2.1]; exact hlt
      have hzi : i < zs.length := by rw [← HN.out]; exact hlt
      obtain ⟨z, hz⟩ : ∃ z, zs[i]? = some z := ⟨_, List.getElem?_eq_getElem hzi⟩
      obtain ⟨x, hx⟩ : ∃ x, vs[i]? = some x := ⟨_, List.getElem?_eq_getElem hvi⟩
      have hel := HC.out.2.2.2.1.get (i := i) hx (by rw [List.getElem?_map, hz]; rfl)
      obtain ⟨b, rfl, hbg, hbc⟩ := hel.kp HST.out.kp
      have hb0 : wr.cell? ⟨b, 0, none⟩ = some (.int .i64 z) := hbc 0 _ rfl
      have hd : vs.drop i ++ vs.take i = .pointer (some ⟨b, 0, none⟩) :: (vs.drop (i + 1) ++ vs.take i) := by
        rw [List.drop_eq_getElem_cons hvi, List.cons_append]
        congr 1
        rw [List.getElem?_eq_getElem hvi] at hx
        injection hx
      have C1 := Lib.hid (qtake_cons wr (vs := vs.drop (i + 1) ++ vs.take i) (v := .pointer (some ⟨b, 0, none⟩)) (by rw [← hd]; exact HST.out.ch))
      have HZ := Lib.hid (And.intro hz hx)
      have HWI : Hid (wrap64 ((i : Int) + 1) = ((i + 1 : Nat) : Int)) := by show _ = _; have := HL.out; unfold wrap64; omega
      have HT : Hid (vs.drop (i + 1) ++ vs.take i ++ [Value.pointer (some ⟨b, 0, none⟩)] = vs.drop (i + 1) ++ vs.take (i + 1)) := by
        show _ = _
        rw [List.append_assoc, List.take_add_one, hx]; rfl
      have HTZ : Hid ((zs.take i).map (Value.int .i64) ++ [Value.int .i64 z] = (zs.take (i + 1)).map (Value.int .i64)) := by
        show _ = _
        rw [List.take_add_one, hz, List.map_append]; rfl
      have HB0 := Lib.hid (And.intro hbg.1 hb0)
      have HTL : Hid (((zs.take i).map (Value.int .i64)).length ≤ 1000000) := by
        show _ ≤ _
        rw [List.length_map, List.length_take]
        have := HL.out; omega
      have HCG := Lib.hid hcg
      have HLR : Hid ((vs.drop (i + 1) ++ vs.take i).length < cap) := by
        show _ < _
        have h1 := HC.out.2.1
        rw [List.length_append, List.length_drop, List.length_take]; omega
      clear hvi hzi hz hx hel hbc hd hb0 hbg
      go_wp2_with (first
        | (go_at_call 30; refine C1.out.mono ?_; rintro e w2 ⟨rfl, hs2⟩; have hk2 := hs2.kp B g HC.out.1; have hb2 := hk2.cell (p := ⟨b, 0, none⟩) HB0.out.1 HB0.out.2; have H2 := Lib.hid (And.intro hs2 hk2); clear hs2 hk2)
        | (at_builtin; refine wpList_app1 rfl (.tmp 22) (.tmp 26) 27 rfl w.heap.size 3 (.int .i64 0) 8 Try.underlying27 info_int rfl (by decide) _ ((zs.take i).map (Value.int .i64)) rfl ((HST.out.ov.kp H2.out.2 (fun j hj => by have := (HST.out.ov.lt hj).1; have := HC.out.2.2.2.2.2.2.2; omega)).alloc _) w2.heap.size 1 (.int .i64 z) rfl (World.cell?_alloc_at _ _ _ _ rfl) rfl HTL.out (by have := HST.out.kp.size; have := H2.out.2.size; simp; omega) ?_
           intro v4 w4 ho4 hg4 hor4
           have hgr : ∀ j, u4.ownBlock = some j → w.heap.size ≤ j := fun j hj => (HST.out.ov.lt hj).1
           have hk4 : Kp true B g w w4 := ((HST.out.kp.trans H2.out.2).trans (Kp.alloc (by have := HST.out.kp.size; have := H2.out.2.size; have := HW.out.2; omega) _)).grown hg4 HW.out.2 hgr
           have hch4 : ChAt w4 c cap (vs.drop (i + 1) ++ vs.take i) := (H2.out.1.at_.below ((Below.refl _ _).alloc (Nat.le_refl _) _)).grown hg4 (fun e => by have := hgr c e; have := HC.out.2.2.2.2.2.2.1; omega)
           have hgb4 : w4.heap[g]? = w.heap[g]? := by
             have h1 := HC.out.2.2.2.2.2
             have h2 := HST.out.kp.size
             have h3 := H2.out.2.size
             rw [hg4.block g (by simp; omega) (fun e => by have := hgr g e.symm; omega), Below.heap_alloc _ _ _ (by omega), H2.out.1.ne g h1.1]
             exact HST.out.gb
           have hc4 : w4.cell? ⟨g, 0, none⟩ = some (.chan (some c)) := (World.cell?_of_block (w := w) (a := ⟨g, 0, none⟩) hgb4).trans HC0.out
           have C3 := Lib.hid (qput_at w4 (A := some ⟨b, 0, none⟩) hch4 HLR.out)
           rw [HTZ.out] at ho4
           have H4 := Lib.hid (And.intro ho4 (And.intro hk4 hgb4))
           clear ho4 hg4 hor4 hgr hk4 hch4 hgb4)
        | (go_at_call 31; refine C3.out.mono ?_; rintro e w5 ⟨rfl, hs5⟩; rw [HT.out] at hs5; have H5 := Lib.hid hs5; clear hs5)
        | fail)
      go_roundw
      case rel =>
        refine ⟨i + 1, by omega, by rw [HWI.out], ⟨H5.out.at_, H4.out.2.1.trans (H5.out.kp B g HC.out.1), (H5.out.ne g HC.out.2.2.2.2.2.1).trans H4.out.2.2, H4.out.1.kp (H5.out.kp B g HC.out.1) (fun j hj => ?_)⟩⟩
        have := (H4.out.1.lt hj).1; have := HC.out.2.2.2.2.2.2.2; omega
      case measure => rw [HWI.out]; simp [intOf]; omega
    · obtain rfl : i = n := by omega
      go_wp2_with fail
      go_ret
      have h := HST.out
      have e1 : zs.take i = zs := List.take_of_length_le (by rw [← HN.out]; exact Nat.le_refl _)
      have e2 : vs.drop i ++ vs.take i = vs := by
        have := HC.out.2.2.2.2.1
        rw [List.drop_eq_nil_of_le (by omega), List.take_of_length_le (by omega)]; rfl
      have h1 := h.ch
      have h4 := h.ov
      rw [e2] at h1
      rw [e1] at h4
      exact ⟨_, rfl, h4, ⟨HQ.out.1, (World.frozen?_of_block (w := w) h.gb).trans HQ.out.2, _, (World.cell?_of_block (w := w) (a := ⟨g, 0, none⟩) h.gb).trans HC0.out, Chn.at_ HC.out.1 h1 HC.out.2.1 HC.out.2.2.1 (HC.out.2.2.2.1.kp h.kp)⟩, h.kp⟩
end Go.Proofs.Ytkflekaibfkicaa
