/- What behindScheme of layer 4 returns. -/
import Derived.Test.YtanbjifdcplmnaaGreatDoorTArrS
import Derived.Test.YtanbjifdcplmnaaGreatDoorTShaE
import Derived.Deep.RegionHeld3
namespace Go.Proofs.YtanbjifdcplmnaaGreatDoor
open Go.RowKit

/-- What stands behind the scheme. -/
def behI (e : Epd) : Itm := if e.scheme = 2 then .mk 4 0 [] [.mk 0 e.node [] [], .mk 0 e.service [] []] else if e.name = [] then .mk 0 0 [] [] else .mk 3 0 e.name []
theorem itemE_beh (e : Epd) : itemE e = .mk 4 0 [] [.mk 0 e.scheme.toNat [] [], behI e] := rfl

theorem put4_cell {W : World} {g : Nat} {p : Addr} {u v0 v1 v2 v3 : Value} (h : W.cell? p = some u) (hg : ¬ g = p.block) : ((((W.setCell ⟨g, 0, none⟩ v0).setCell ⟨g, 1, none⟩ v1).setCell ⟨g, 2, none⟩ v2).setCell ⟨g, 3, none⟩ v3).cell? p = some u := by
  rw [World.cell?_setCell_far _ _ _ _ hg, World.cell?_setCell_far _ _ _ _ hg, World.cell?_setCell_far _ _ _ _ hg, World.cell?_setCell_far _ _ _ _ hg]
  exact h
/-- Two items in a row of their own. -/
theorem RdIs.two_ {lo : Nat} {W : World} {a0 a1 a2 a3 b0 b1 b2 b3 : Value} {x y : Itm} {t : TypeId} (hlo : lo ≤ W.heap.size) (h1 : RdI (mask (lows lo) W) W.heap.size (.agg #[a0, a1, a2, a3]) x) (h2 : RdI (mask (lows lo) W) W.heap.size (.agg #[b0, b1, b2, b3]) y) :
    RdIs (mask (lows lo) (W.alloc (.cells #[a0, a1, a2, a3, b0, b1, b2, b3] t))) (W.heap.size + 1) W.heap.size 0 [x, y] := by
  have hb := (Below.refl W.heap.size W).alloc (Nat.le_refl _) (.cells #[a0, a1, a2, a3, b0, b1, b2, b3] t)
  have hs : (W.alloc (.cells #[a0, a1, a2, a3, b0, b1, b2, b3] t)).heap.size = W.heap.size + 1 := by simp
  have k1 := h1.grow hb (Nat.le_refl lo)
  have k2 := h2.grow hb (Nat.le_refl lo)
  rw [hs] at k1 k2
  have hc : ∀ j u, (#[a0, a1, a2, a3, b0, b1, b2, b3] : Array Value)[j]? = some u → (mask (lows lo) (W.alloc (.cells #[a0, a1, a2, a3, b0, b1, b2, b3] t))).cell? ⟨W.heap.size, j, none⟩ = some u := fun j u hj => by
    rw [mask_cell (lows_f.2 hlo), World.cell?_alloc_at _ _ _ _ rfl]
    exact hj
  rw [RdIs, RdIs, RdIs]
  exact ⟨⟨a0, a1, a2, a3, hc 0 _ rfl, hc 1 _ rfl, hc 2 _ rfl, hc 3 _ rfl, k1⟩, ⟨b0, b1, b2, b3, hc 4 _ rfl, hc 5 _ rfl, hc 6 _ rfl, hc 7 _ rfl, k2⟩, trivial⟩

/-- Array of two items in a row of their own. -/
theorem carray_two {lo : Nat} {W : World} {a0 a1 a2 a3 b0 b1 b2 b3 : Value} {x y : Itm} (hlo : lo ≤ W.heap.size) (h1 : RdI (mask (lows lo) W) W.heap.size (.agg #[a0, a1, a2, a3]) x) (h2 : RdI (mask (lows lo) W) W.heap.size (.agg #[b0, b1, b2, b3]) y) (hp : pars [x, y] ≤ 1000000) :
    Calls Tryz.prog 91 #[.slice (some ⟨W.heap.size, 0, none⟩) 2 2] (W.alloc (.cells #[a0, a1, a2, a3, b0, b1, b2, b3] 37)) (GivesL lo (.mk 4 0 [] [x, y]) (W.alloc (.cells #[a0, a1, a2, a3, b0, b1, b2, b3] 37))) :=
  carrayS_any (lows lo) W.heap.size 0 2 2 (W.heap.size + 1) [x, y] (W.alloc (.cells #[a0, a1, a2, a3, b0, b1, b2, b3] 37)) (fun k hk => by have h1 := decide_eq_true_iff.1 hk; simp; omega) (Nat.le_of_eq (by simp)) (Nat.lt_succ_self _) (RdIs.two_ hlo h1 h2) rfl (by decide) hp (Nat.le_refl _)

set_option maxRecDepth 100000 in
set_option maxHeartbeats 300000 in
theorem ebehind_any (sc : Int) (s : ByteArray) (n v : Nat) (w : World) (hc : checkB (ep sc s n v) = true) (hs : s.size ≤ 140737488355328) (hn : n < 18446744073709551616) (hv : v < 18446744073709551616) :
    Calls Tryz.prog 102 #[epdV sc s n v] w (GivesL w.heap.size (behI (ep sc s n v)) w) := by
  have C2 := Lib.hid (fun W => none_any sc s n v W)
  by_cases h1 : sc = 1
  · subst h1
    obtain ⟨hn0, hv0, -⟩ := check_dtn hc rfl
    have CU := Lib.hid (fun (lo : Nat) (W : World) => cuintL_any lo 0 W (by decide))
    have CT := Lib.hid (fun (lo : Nat) (W : World) h => ctextL_any lo s W h hs)
    by_cases he : s.data.toList = []
    · have hno : noneB (ep 1 s n v) = true := by
        unfold noneB
        rw [hn0, hv0, show (ep 1 s n v).name = [] from he]
        rfl
      have hbi : behI (ep 1 s n v) = .mk 0 0 [] [] := by
        unfold behI
        rw [if_neg (show ¬ (ep 1 s n v).scheme = 2 by show ¬ (1 : Int) = 2; decide), if_pos (show (ep 1 s n v).name = [] from he)]
      rw [hno] at C2
      rw [hbi]
      clear hc hno hbi hn0 hv0 he
      unfold epdV at *
      go_enter Tryz.func102, Tryz.ntmps102
      go_wp2_with fail
      refine (C2.out _).mono ?_
      rintro e w1 ⟨rfl, hb⟩
      have HB := Lib.hid hb
      clear hb
      go_wp2_with fail
      refine (CU.out (w.heap.size + 2) _).mono ?_
      rintro e w2 ⟨v2, rfl, hv2, hb⟩
      obtain ⟨k2, n2, A2, nd2, cd2, AL2, nl2, cl2, rfl⟩ := hv2.form
      have hb2 := (HB.out.trans (hb.mono HB.out.size)).mono (show w.heap.size + 2 ≤ _ by simp)
      obtain ⟨⟨z0, z1, z2, z3⟩, f0, f1, f2, f3⟩ := zero4 (g := w.heap.size + 1) (by simp) hb2
      have HB2 := Lib.hid hb2
      have HV2 := Lib.hid hv2
      clear hb hb2 hv2
      go_wp2_with fail
      refine bodyPost_ret (v := .agg #[.int .i64 k2, .int .u64 (n2 : Int), .slice A2 nd2 cd2, .slice AL2 nl2 cl2]) (by simp [results, Tryz.results102, go_sem, z0, z1, z2, z3]) rfl ⟨_, rfl, ?_, ?_⟩
      · exact HV2.out.put4 (Nat.le_add_right _ 2) (Nat.lt_succ_self _) (Nat.le_of_eq size_put4.symm)
      · exact below_set4 ((((Below.refl _ _).alloc (Nat.le_refl _) _).alloc (le_alloc _ _) _).trans (HB2.out.mono (Nat.le_add_right _ 2))) (Nat.le_succ _)
    · have hno : noneB (ep 1 s n v) = false := by
        unfold noneB
        have : (ep 1 s n v).name.isEmpty = false := by rw [ep_name]; cases hh : s.data.toList with | nil => exact absurd hh he | cons a l => rfl
        rw [this, Bool.false_and, Bool.and_false]
      have hbi : behI (ep 1 s n v) = .mk 3 0 s.data.toList [] := by
        unfold behI
        rw [if_neg (show ¬ (ep 1 s n v).scheme = 2 by show ¬ (1 : Int) = 2; decide), if_neg (show ¬ (ep 1 s n v).name = [] from he)]
        rfl
      rw [hno] at C2
      rw [hbi]
      clear hc hno hbi hn0 hv0 he
      unfold epdV at *
      go_enter Tryz.func102, Tryz.ntmps102
      go_wp2_with fail
      refine (C2.out _).mono ?_
      rintro e w1 ⟨rfl, hb⟩
      have g1 := box_cells4 ((((Below.refl (w.alloc (.cells #[.int .i64 1, .string s, .int .u64 (n : Int), .int .u64 (v : Int)] 46)).heap.size _).alloc (Nat.le_refl _) _)).trans (hb.mono (le_alloc _ _)))
      have HB := Lib.hid hb
      clear hb
      obtain ⟨g10, g11, g12, g13⟩ := g1
      go_wp2_with fail
      refine (CT.out (w.heap.size + 2) _ (by have h := HB.out.size; simpa using h)).mono ?_
      rintro e w2 ⟨v2, rfl, hv2, hb⟩
      obtain ⟨k2, n2, A2, nd2, cd2, AL2, nl2, cl2, rfl⟩ := hv2.form
      have hb2 := (HB.out.trans (hb.mono HB.out.size)).mono (show w.heap.size + 2 ≤ _ by simp)
      obtain ⟨⟨z0, z1, z2, z3⟩, f0, f1, f2, f3⟩ := zero4 (g := w.heap.size + 1) (by simp) hb2
      have HB2 := Lib.hid hb2
      have HV2 := Lib.hid hv2
      clear hb hb2 hv2
      go_wp2_with fail
      refine bodyPost_ret (v := .agg #[.int .i64 k2, .int .u64 (n2 : Int), .slice A2 nd2 cd2, .slice AL2 nl2 cl2]) (by simp [results, Tryz.results102, go_sem, z0, z1, z2, z3]) rfl ⟨_, rfl, ?_, ?_⟩
      · exact HV2.out.put4 (Nat.le_add_right _ 2) (Nat.lt_succ_self _) (Nat.le_of_eq size_put4.symm)
      · exact below_set4 ((((Below.refl _ _).alloc (Nat.le_refl _) _).alloc (le_alloc _ _) _).trans (HB2.out.mono (Nat.le_add_right _ 2))) (Nat.le_succ _)
  · obtain ⟨h2, hnm, -, -, -⟩ := check_ipn hc h1
    have h2' : sc = 2 := h2
    subst h2'
    have hno : noneB (ep 2 s n v) = false := rfl
    have hbi : behI (ep 2 s n v) = .mk 4 0 [] [.mk 0 n [] [], .mk 0 v [] []] := rfl
    rw [hno] at C2
    rw [hbi]
    have CU1 := Lib.hid (fun (W : World) => cuintL_any (w.heap.size + 2) n W hn)
    have CU2 := Lib.hid (fun (W : World) => cuintL_any (w.heap.size + 2) v W hv)
    have hpar : pars [.mk 0 n [] [], .mk 0 v [] []] ≤ 1000000 := by simp [pars, par]
    have HPAR := Lib.hid hpar
    clear hc hno hbi hnm h1 h2 hpar
    unfold epdV at *
    go_enter Tryz.func102, Tryz.ntmps102
    go_wp2_with fail
    refine (C2.out _).mono ?_
    rintro e w1 ⟨rfl, hb⟩
    have g1 := box_cells4 ((((Below.refl (w.alloc (.cells #[.int .i64 2, .string s, .int .u64 (n : Int), .int .u64 (v : Int)] 46)).heap.size _).alloc (Nat.le_refl _) _)).trans (hb.mono (le_alloc _ _)))
    have HB := Lib.hid (hb.mono (show w.heap.size + 2 ≤ _ by simp))
    have HZ1 : Hid (w.heap.size + 2 ≤ w1.heap.size) := by show _ ≤ _; have h := hb.size; simpa using h
    clear hb
    obtain ⟨g10, g11, g12, g13⟩ := g1
    go_wp2_with fail
    have HNE : Hid (¬ w.heap.size + 1 = w.heap.size) := Nat.succ_ne_self _
    have hlt0 : w.heap.size < w1.heap.size := Nat.lt_of_lt_of_le (by omega) HZ1.out
    go_region_held3 (fun W => W.cell? ⟨w.heap.size, 2, none⟩ = some (.int .u64 (n : Int)) ∧ W.cell? ⟨w.heap.size, 3, none⟩ = some (.int .u64 (v : Int)))
      (first | (with_reducible exact ⟨x2, x3⟩) | (with_reducible exact ⟨put4_cell x2 HNE.out, put4_cell x3 HNE.out⟩) | (with_reducible exact ⟨u2, u3⟩) | (with_reducible exact ⟨(World.cell?_alloc_lt w3 _ ⟨w.heap.size, 2, none⟩ H3.out).trans u2, (World.cell?_alloc_lt w3 _ ⟨w.heap.size, 3, none⟩ H3.out).trans u3⟩) | (with_reducible exact ⟨t2, t3⟩) | (exact ⟨g12, g13⟩) | fail)
      (first
        | (go_at_call 89; have _g := V2; clear _g; refine (CU2.out _).mono ?_; rintro e w3 ⟨v3, rfl, hv3, hb3⟩; have V3 := Lib.hid (V2.out.grow hb3 (Nat.le_refl _)); have hb3' := B2.out.trans (hb3.mono B2.out.size); have u2 := (hb3'.cell (p := ⟨w.heap.size, 2, none⟩) hlt0).trans g12; have u3 := (hb3'.cell (p := ⟨w.heap.size, 3, none⟩) hlt0).trans g13; obtain ⟨k3, n3, A3, nd3, cd3, AL3, nl3, cl3, rfl⟩ := hv3.form; have W3 := Lib.hid hv3; have B3 := Lib.hid hb3'; have H3 : Hid (w.heap.size < w3.heap.size) := Nat.lt_of_lt_of_le hlt0 hb3'.size; clear hv3 hb3 hb3')
        | (go_at_call 89; refine (CU1.out _).mono ?_; rintro e w2 ⟨v2, rfl, hv2, hb2⟩; have hb2' : Below w1.heap.size w1 w2 := Below.drew_.trans hb2; have t2 := (hb2'.cell (p := ⟨w.heap.size, 2, none⟩) hlt0).trans g12; have t3 := (hb2'.cell (p := ⟨w.heap.size, 3, none⟩) hlt0).trans g13; obtain ⟨k2, n2, A2, nd2, cd2, AL2, nl2, cl2, rfl⟩ := hv2.form; have V2 := Lib.hid hv2; have B2 := Lib.hid hb2'; clear hv2 hb2 hb2')
        | (go_at_call 91; refine (carray_two (Nat.le_trans HZ1.out B3.out.size) V3.out W3.out HPAR.out).mono ?_; rintro e w4 ⟨v4, rfl, hv4, hb4⟩; have hb4' := (B3.out.alloc B3.out.size _).trans (hb4.mono (Nat.le_trans B3.out.size (le_alloc _ _))); have x2 := (hb4'.cell (p := ⟨w.heap.size, 2, none⟩) hlt0).trans g12; have x3 := (hb4'.cell (p := ⟨w.heap.size, 3, none⟩) hlt0).trans g13; obtain ⟨k4, n4, A4, nd4, cd4, AL4, nl4, cl4, rfl⟩ := hv4.form; have V4 := Lib.hid hv4; have hb5 := HB.out.trans (hb4'.mono HZ1.out); obtain ⟨⟨z0, z1, z2, z3⟩, f0, f1, f2, f3⟩ := zero4 (g := w.heap.size + 1) (by simp) hb5; have B4 := Lib.hid hb5; clear hv4 hb4 hb4' hb5)
        | fail)
    go_wp2_with fail
    refine bodyPost_ret (v := .agg #[.int .i64 k4, .int .u64 (n4 : Int), .slice A4 nd4 cd4, .slice AL4 nl4 cl4]) (by simp [results, Tryz.results102, go_sem, z0, z1, z2, z3]) rfl ⟨_, rfl, ?_, ?_⟩
    · exact V4.out.put4 (Nat.le_add_right _ 2) (Nat.lt_succ_self _) (Nat.le_of_eq size_put4.symm)
    · exact below_set4 ((((Below.refl _ _).alloc (Nat.le_refl _) _).alloc (le_alloc _ _) _).trans (B4.out.mono (Nat.le_add_right _ 2))) (Nat.le_succ _)
end Go.Proofs.YtanbjifdcplmnaaGreatDoor
/- What written and Item of layer 4 return. -/
namespace Go.Proofs.YtanbjifdcplmnaaGreatDoor
open Go.RowKit

def zeroItem : Value := .agg #[.int .i64 0, .int .u64 0, .slice none 0 0, .slice none 0 0]
def eflt (s : ByteArray) (v : Value) : Value := .iface 134 (.agg #[.string s, v])
/-- An endpoint's item, or why there is none. -/
def Writ (A : Snt) (E : Epd) (w : World) (e : Ending) (w' : World) : Prop := Below w.heap.size w w' ∧
  ((checkB E = true ∧ ∃ v, e = .returned (.tuple #[v, .nilIface]) ∧ RdI (mask (lows w.heap.size) w') w'.heap.size v (itemE E)) ∨
   (checkB E = false ∧ ∃ a s, OneOf A a ∧ e = .returned (.tuple #[zeroItem, eflt s (snt a)])))
theorem par_beh (e : Epd) : pars [.mk 0 e.scheme.toNat [] [], behI e] ≤ 1000000 := by
  unfold behI
  split
  · simp [pars, par]
  · split <;> simp [pars, par]

set_option maxRecDepth 100000 in
set_option maxHeartbeats 1000000 in
theorem written_any (A : Snt) (sc : Int) (s : ByteArray) (n v : Nat) (w : World) (hA : Lds A w) (hs : s.size ≤ 140737488355328) (hn : n < 18446744073709551616) (hv : v < 18446744073709551616) :
    Calls Tryz.prog 75 #[epdV sc s n v] w (Writ A (ep sc s n v) w) := by
  have hA2 := (hA.alloc (.cells #[.int .i64 sc, .string s, .int .u64 (n : Int), .int .u64 (v : Int)] 46)).alloc (.cells #[.int .i64 0, .int .u64 0, .slice none 0 0, .slice none 0 0] 37)
  have C1 := Lib.hid (echeck_any A sc s n v _ hA2 hs)
  have q1 := fun (W : World) (u : TypeId) (x : Value) => run_neq_iface_nil (P := Tryz.prog) (w := W) 60 (by kernel_rfl) u x
  clear hA hA2
  cases hc : checkB (ep sc s n v) with
  | false =>
    rw [hc] at C1
    have HW : Hid (∀ e w', Below w.heap.size w w' → (∃ a s, OneOf A a ∧ e = .returned (.tuple #[zeroItem, eflt s (snt a)])) → Writ A (ep sc s n v) w e w') := fun e w' h1 h2 => ⟨h1, .inr ⟨hc, h2⟩⟩
    clear hc
    unfold epdV at *
    go_enter Tryz.func75, Tryz.ntmps75
    go_wp2_with fail
    refine C1.out.mono ?_
    rintro e w1 ⟨hb, ⟨h, -⟩ | ⟨-, a, ha, rfl⟩⟩
    · cases h
    have hb2 := hb.mono (show w.heap.size + 2 ≤ _ by simp)
    obtain ⟨⟨z0, z1, z2, z3⟩, f0, f1, f2, f3⟩ := zero4 (g := w.heap.size + 1) (by simp) hb2
    have HB2 := Lib.hid hb2
    have HO := Lib.hid ha
    clear hb hb2 ha
    unfold snt
    go_wp2_with fail
    refine bodyPost_ret (v := .tuple #[zeroItem, eflt ⟨#[101, 110, 100, 112, 111, 105, 110, 116]⟩ (snt a)]) (by simp [results, Tryz.results75, go_sem, z0, z1, z2, z3, zeroItem, eflt, snt]) rfl (HW.out _ _ ?_ ⟨a, _, HO.out, rfl⟩)
    exact below_set4 ((((Below.refl _ _).alloc (Nat.le_refl _) _).alloc (le_alloc _ _) _).trans (HB2.out.mono (Nat.le_add_right _ 2))) (Nat.le_succ _)
  | true =>
    rw [hc] at C1
    have hpar := par_beh (ep sc s n v)
    have hit := itemE_beh (ep sc s n v)
    rw [show (ep sc s n v).scheme = sc from rfl] at hpar hit
    have CB := Lib.hid (fun (W : World) => ebehind_any sc s n v W hc hs hn hv)
    have HW : Hid (∀ e w', Below w.heap.size w w' → (∃ v0, e = .returned (.tuple #[v0, .nilIface]) ∧ RdI (mask (lows w.heap.size) w') w'.heap.size v0 (.mk 4 0 [] [.mk 0 sc.toNat [] [], behI (ep sc s n v)])) → Writ A (ep sc s n v) w e w') := fun e w' h1 h2 => ⟨h1, .inl ⟨hc, by rw [hit]; exact h2⟩⟩
    have h12 : sc = 1 ∨ sc = 2 := by
      by_cases h1 : sc = 1
      · exact .inl h1
      · exact .inr (check_ipn hc h1).1
    have hwr : IntKind.u64.wrap sc = sc := by rcases h12 with rfl | rfl <;> rfl
    have CU : Hid (∀ (W : World), Calls Tryz.prog 89 #[.int .u64 (IntKind.u64.wrap sc)] W (GivesL (w.heap.size + 2) (.mk 0 sc.toNat [] []) W)) := fun W => by
      rw [hwr]
      have h := cuintL_any (w.heap.size + 2) sc.toNat W (by rcases h12 with rfl | rfl <;> decide)
      rw [show ((sc.toNat : Nat) : Int) = sc by rcases h12 with rfl | rfl <;> rfl] at h
      exact h
    have HPAR := Lib.hid hpar
    generalize behI (ep sc s n v) = bi at *
    clear hc hit hpar h12 hwr
    unfold epdV at *
    generalize sc.toNat = scn at *
    go_enter Tryz.func75, Tryz.ntmps75
    go_wp2_with fail
    refine C1.out.mono ?_
    rintro e w1 ⟨hb, ⟨-, rfl⟩ | ⟨h, -⟩⟩
    case inr => cases h
    have g1 := box_cells4 ((((Below.refl (w.alloc (.cells #[.int .i64 sc, .string s, .int .u64 (n : Int), .int .u64 (v : Int)] 46)).heap.size _).alloc (Nat.le_refl _) _)).trans (hb.mono (le_alloc _ _)))
    have HB := Lib.hid (hb.mono (show w.heap.size + 2 ≤ _ by simp))
    have HZ1 : Hid (w.heap.size + 2 ≤ w1.heap.size) := by show _ ≤ _; have h := hb.size; simpa using h
    clear hb
    obtain ⟨g10, g11, g12, g13⟩ := g1
    have HNE : Hid (¬ w.heap.size + 1 = w.heap.size) := Nat.succ_ne_self _
    go_wp2_with fail
    have hlt0 : w.heap.size < w1.heap.size := Nat.lt_of_lt_of_le (by omega) HZ1.out
    go_region_held3 (fun W => W.cell? ⟨w.heap.size, 0, none⟩ = some (.int .i64 sc) ∧ W.cell? ⟨w.heap.size, 1, none⟩ = some (.string s) ∧ W.cell? ⟨w.heap.size, 2, none⟩ = some (.int .u64 (n : Int)) ∧ W.cell? ⟨w.heap.size, 3, none⟩ = some (.int .u64 (v : Int)))
      (first | (with_reducible exact ⟨x0, x1, x2, x3⟩) | (with_reducible exact ⟨put4_cell x0 HNE.out, put4_cell x1 HNE.out, put4_cell x2 HNE.out, put4_cell x3 HNE.out⟩) | (with_reducible exact ⟨u0, u1, u2, u3⟩) | (with_reducible exact ⟨(World.cell?_alloc_lt w3 _ ⟨w.heap.size, 0, none⟩ H3.out).trans u0, (World.cell?_alloc_lt w3 _ ⟨w.heap.size, 1, none⟩ H3.out).trans u1, (World.cell?_alloc_lt w3 _ ⟨w.heap.size, 2, none⟩ H3.out).trans u2, (World.cell?_alloc_lt w3 _ ⟨w.heap.size, 3, none⟩ H3.out).trans u3⟩) | (with_reducible exact ⟨t0, t1, t2, t3⟩) | (exact ⟨g10, g11, g12, g13⟩) | fail)
      (first
        | (go_at_call 89; refine (CU.out _).mono ?_; rintro e w2 ⟨v2, rfl, hv2, hb2⟩; have hb2' : Below w1.heap.size w1 w2 := Below.drew_.trans hb2; have t0 := (hb2'.cell (p := ⟨w.heap.size, 0, none⟩) hlt0).trans g10; have t1 := (hb2'.cell (p := ⟨w.heap.size, 1, none⟩) hlt0).trans g11; have t2 := (hb2'.cell (p := ⟨w.heap.size, 2, none⟩) hlt0).trans g12; have t3 := (hb2'.cell (p := ⟨w.heap.size, 3, none⟩) hlt0).trans g13; obtain ⟨k2, n2, A2, nd2, cd2, AL2, nl2, cl2, rfl⟩ := hv2.form; have V2 := Lib.hid hv2; have B2 := Lib.hid hb2'; clear hv2 hb2 hb2')
        | (go_at_call 102; refine (CB.out _).mono ?_; rintro e w3 ⟨v3, rfl, hv3, hb3⟩; have V3 := Lib.hid (V2.out.grow hb3 (Nat.le_refl _)); have W3 := Lib.hid (hv3.grow (Below.refl _ _) (Nat.le_trans HZ1.out B2.out.size)); have hb3' := B2.out.trans (hb3.mono B2.out.size); have u0 := (hb3'.cell (p := ⟨w.heap.size, 0, none⟩) hlt0).trans g10; have u1 := (hb3'.cell (p := ⟨w.heap.size, 1, none⟩) hlt0).trans g11; have u2 := (hb3'.cell (p := ⟨w.heap.size, 2, none⟩) hlt0).trans g12; have u3 := (hb3'.cell (p := ⟨w.heap.size, 3, none⟩) hlt0).trans g13; obtain ⟨k3, n3, A3, nd3, cd3, AL3, nl3, cl3, rfl⟩ := hv3.form; have B3 := Lib.hid hb3'; have H3 : Hid (w.heap.size < w3.heap.size) := Nat.lt_of_lt_of_le hlt0 hb3'.size; clear hv3 hb3 hb3')
        | (go_at_call 91; refine (carray_two (Nat.le_trans HZ1.out B3.out.size) V3.out W3.out HPAR.out).mono ?_; rintro e w4 ⟨v4, rfl, hv4, hb4⟩; have hb4' := (B3.out.alloc B3.out.size _).trans (hb4.mono (Nat.le_trans B3.out.size (le_alloc _ _))); have x0 := (hb4'.cell (p := ⟨w.heap.size, 0, none⟩) hlt0).trans g10; have x1 := (hb4'.cell (p := ⟨w.heap.size, 1, none⟩) hlt0).trans g11; have x2 := (hb4'.cell (p := ⟨w.heap.size, 2, none⟩) hlt0).trans g12; have x3 := (hb4'.cell (p := ⟨w.heap.size, 3, none⟩) hlt0).trans g13; obtain ⟨k4, n4, A4, nd4, cd4, AL4, nl4, cl4, rfl⟩ := hv4.form; have V4 := Lib.hid hv4; have hb5 := HB.out.trans (hb4'.mono HZ1.out); obtain ⟨⟨z0, z1, z2, z3⟩, f0, f1, f2, f3⟩ := zero4 (g := w.heap.size + 1) (by simp) hb5; have B4 := Lib.hid hb5; clear hv4 hb4 hb4' hb5)
        | fail)
    go_wp2_with fail
    refine bodyPost_ret (v := .tuple #[.agg #[.int .i64 k4, .int .u64 (n4 : Int), .slice A4 nd4 cd4, .slice AL4 nl4 cl4], .nilIface]) (by simp [results, Tryz.results75, go_sem, z0, z1, z2, z3]) rfl (HW.out _ _ ?_ ⟨_, rfl, ?_⟩)
    · exact below_set4 ((((Below.refl _ _).alloc (Nat.le_refl _) _).alloc (le_alloc _ _) _).trans (B4.out.mono (Nat.le_add_right _ 2))) (Nat.le_succ _)
    · exact V4.out.put4 (Nat.le_add_right _ 2) (Nat.lt_succ_self _) (Nat.le_of_eq size_put4.symm)

/-- An endpoint's item, or 40. -/
def ItmE (E : Epd) (w : World) (e : Ending) (w' : World) : Prop := Below w.heap.size w w' ∧
  ((checkB E = true ∧ ∃ v, e = .returned (.tuple #[v, .int .i64 0]) ∧ RdI w' w'.heap.size v (itemE E)) ∨
   (checkB E = false ∧ e = .returned (.tuple #[zeroItem, .int .i64 40])))

end Go.Proofs.YtanbjifdcplmnaaGreatDoor
