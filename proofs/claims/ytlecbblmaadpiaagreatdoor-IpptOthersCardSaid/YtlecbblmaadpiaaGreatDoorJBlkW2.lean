/- append of a slice, perhaps of no element, onto one that the call owns; rows beside. No program's functions. -/
import Derived.Test.YtlecbblmaadpiaaGreatDoorJBlkD
import Derived.Test.YtlecbblmaadpiaaGreatDoorJKRd
import Derived.Test.YtlecbblmaadpiaaGreatDoorJKRdE
import Derived.Deep.AppendLies
import Derived.Deep.RegionHeld3
import Derived.Below
namespace Go.Proofs.YtlecbblmaadpiaaGreatDoor
open Go.RowKit
theorem run_append_z {P : Program} (w : World) (t ty : TypeId) (base : Nat) (e : TypeId) (i : TypeInfo) (z : Value) (size bytes : Nat) (ht : P.underlying t = some (.slice e)) (hi : P.info? e = some i) (hz : i.zero = some z)
    (hsize : i.size = size) (hby : i.bytes = bytes) (hzs : z.cells.size = size) (hsz : 0 < size)
    (g0 cap0 n : Nat) (xs : List Value) (hown : w.ownsRow base e size (.slice (some ⟨g0, 0, none⟩) n cap0) n xs)
    (ad : Addr) (m c : Nat) (news : List Value) (hl : news.length = m * size) (hnews : ∀ j u, news[j]? = some u → w.cell? (ad.add j) = some u) (h1 : ∀ u ∈ news, u.oneCell' = true)
    (h63 : n + m ≤ maxLen) (hbytes : (n + m) * bytes ≤ 140737488355328) (hbase : base ≤ w.heap.size) :
    ∃ g cap w', (Builtin.append_ #[t, t] ty #[.slice (some ⟨g0, 0, none⟩) n cap0, .slice (some ad) m c]).run P w = .ok (.slice (some ⟨g, 0, none⟩) (n + m) cap) w' ∧
      w'.ownsRow base e size (.slice (some ⟨g, 0, none⟩) (n + m) cap) (n + m) (xs ++ news) ∧ w.grownBy w' (some g0) ∧ (g = g0 ∨ g = w.heap.size) ∧ g < w'.heap.size := by
  obtain ⟨v', w', hr, h2, h3, h4, h5⟩ := run_append_own_at (P := P) w base t ty e i z size bytes ht hi hz hsize hby hzs hsz _ n xs hown ad m c news hl hnews h1 h63 hbytes hbase
  rcases h2.2 with ⟨rfl, _⟩ | ⟨g, cap, cur, rfl, hb, hg, _⟩
  · have := (h4.1 rfl).1
    cases this
  refine ⟨g, cap, w', hr, h2, h3, ?_, ?_⟩
  · rcases h5 with h5 | h5
    · left; simpa [Value.ownBlock] using h5
    · right; simpa [Value.ownBlock] using h5
  · rcases Nat.lt_or_ge g w'.heap.size with hlt | hge
    · exact hlt
    · rw [Array.getElem?_eq_none hge] at hg; cases hg
theorem step_append_z {P : Program} {w : World} {ops : Array Oper} {o : Oper} {a : Act} {K : Act → World → Prop} {Q : Exit → Act → World → Prop} {E : Prop} (hgd : o.guard = none) (s x : Operand) (t : TypeId)
    (ho : o.op = .call { callee := .builtin .append, args := #[s, x], argTypes := #[t, t] })
    (base : Nat) (e : TypeId) (i : TypeInfo) (z : Value) (size bytes : Nat) (ht : P.underlying t = some (.slice e)) (hi : P.info? e = some i) (hz : i.zero = some z)
    (hsize : i.size = size) (hby : i.bytes = bytes) (hzs : z.cells.size = size) (hsz : 0 < size)
    (g0 cap0 n : Nat) (xs : List Value) (hs : a.eval s = .slice (some ⟨g0, 0, none⟩) n cap0) (hown : w.ownsRow base e size (.slice (some ⟨g0, 0, none⟩) n cap0) n xs)
    (ad : Addr) (m c : Nat) (news : List Value) (hx : a.eval x = .slice (some ad) m c) (hl : news.length = m * size) (hnews : ∀ j u, news[j]? = some u → w.cell? (ad.add j) = some u) (h1 : ∀ u ∈ news, u.oneCell' = true)
    (h63 : n + m ≤ maxLen) (hbytes : (n + m) * bytes ≤ 140737488355328) (hbase : base ≤ w.heap.size)
    (h : ∀ g cap w', w'.ownsRow base e size (.slice (some ⟨g, 0, none⟩) (n + m) cap) (n + m) (xs ++ news) → w.grownBy w' (some g0) → (g = g0 ∨ g = w.heap.size) → g < w'.heap.size → K (a.put o.dst (.slice (some ⟨g, 0, none⟩) (n + m) cap)) w') :
    if Region.wanted o (yielded ops a.tmps) = true then Oper.wp P o a w K Q else E := by
  have hw : Region.wanted o (yielded ops a.tmps) = true := by simp [Region.wanted, hgd]
  rw [if_pos hw]
  obtain ⟨g, cap, w', hr, h2, h3, h4, h5⟩ := run_append_z (P := P) w t o.type base e i z size bytes ht hi hz hsize hby hzs hsz g0 cap0 n xs hown ad m c news hl hnews h1 h63 hbytes hbase
  unfold Oper.wp execOp
  simp only [ho, resolve, invoke, builtin, Sem.run_bind, Sem.run_pure, Result.andThen_ok, List.map_toArray, List.map_cons, List.map_nil, hs, hx, hr]
  exact h g cap w' h2 h3 h4 h5
def RowAt (w : World) (g : Nat) (cs : List Value) : Prop := g < w.heap.size ∧ ∀ j u, cs[j]? = some u → w.cell? ((⟨g, 0, none⟩ : Addr).add j) = some u
theorem addr0 (g j : Nat) : (⟨g, 0, none⟩ : Addr).add j = ⟨g, j, none⟩ := by unfold Addr.add; split <;> simp_all
theorem addr_add (b o j : Nat) : (⟨b, o, none⟩ : Addr).add j = ⟨b, o + j, none⟩ := by unfold Addr.add; split <;> simp_all
theorem RowAt.made (w : World) (cs : Array Value) (t : TypeId) : RowAt (w.alloc (.cells cs t)) w.heap.size cs.toList :=
  ⟨by simp, fun j u hj => by
    rw [addr0, World.cell?_alloc_at _ _ _ _ rfl]
    simpa using hj⟩
theorem RowAt.below {w w' : World} {g : Nat} {cs : List Value} (h : RowAt w g cs) (hb : Below w.heap.size w w') : RowAt w' g cs :=
  ⟨Nat.lt_of_lt_of_le h.1 hb.size, fun j u hj => by rw [addr0, hb.cell (p := ⟨g, j, none⟩) h.1, ← addr0]; exact h.2 j u hj⟩
theorem RowAt.alloc {w : World} {g : Nat} {cs : List Value} (h : RowAt w g cs) (o : Obj) : RowAt (w.alloc o) g cs := h.below ((Below.refl _ _).alloc (Nat.le_refl _) o)
theorem RowAt.grown {w w' : World} {g g0 : Nat} {cs : List Value} (h : RowAt w g cs) (hg : w.grownBy w' (some g0)) (hne : g ≠ g0) : RowAt w' g cs :=
  ⟨Nat.lt_of_lt_of_le h.1 hg.size, fun j u hj => by rw [addr0, hg.cell_far ⟨g, j, none⟩ h.1 (fun e => hne (Option.some.inj e)), ← addr0]; exact h.2 j u hj⟩
theorem ne_grown {w : World} {gx g g' : Nat} (hne : gx ≠ g) (hlt : gx < w.heap.size) (hat : g' = g ∨ g' = w.heap.size) : gx ≠ g' := by omega
theorem owns_lt {w : World} {base g n cap size : Nat} {e : TypeId} {xs : List Value} (h : w.ownsRow base e size (.slice (some ⟨g, 0, none⟩) n cap) n xs) : g < w.heap.size := (World.ownsRow.lt h g rfl).2
theorem owns_base {w : World} {base g n cap size : Nat} {e : TypeId} {xs : List Value} (h : w.ownsRow base e size (.slice (some ⟨g, 0, none⟩) n cap) n xs) : base ≤ g := (World.ownsRow.lt h g rfl).1
theorem owns_cap {w : World} {base g n cap size : Nat} {e : TypeId} {xs : List Value} (h : w.ownsRow base e size (.slice (some ⟨g, 0, none⟩) n cap) n xs) : n ≤ cap := by
  rcases h.2 with ⟨hv, _⟩ | ⟨g', cap', cur, hv, _, _, hnc, _⟩
  · cases hv
  · injection hv with _ _ h3
    omega
theorem grownOwn {w a w' : World} {base g : Nat} (h : Below base w a) (hb : base ≤ a.heap.size) (hg : a.grownBy w' (some g)) (hbg : base ≤ g) : Below base w w' :=
  h.grown hg hb (fun k e => by cases e; exact hbg)
theorem takeR {P : Program} {md : Region.Mode} {l : List Oper} {Q : Exit → Act → World → Prop} {S : World → Prop} {i : Nat} {oi : Oper} {v : Value} {fuel : Nat} {listed : Array Bool} {a : Act} {w : World} (hi : l[i]? = some oi)
    (hs : Region.noSelect l.toArray = true) (hf : Region.free md l.toArray listed i = true) (hr : (Region.ready md l.toArray listed).contains i = true)
    (hQ : ∀ c a w, Q (.panic c) (a.put oi.dst v) w → Q (.panic c) a w) (hw : Region.wanted oi (yielded l.toArray a.tmps) = true) (hy : ∀ w, S w → (execOp a.eval oi).run P w = .ok (.value v) w) (hS : S w)
    (h : wpAnyH P md l.toArray Q S fuel (listed.setIfInBounds i true) (a.put oi.dst v) w) : wpAnyH P md l.toArray Q S (fuel + 1) listed a w :=
  wpAnyH_take (oi := oi) (v := v) (by simpa using hi) hs hf hr hQ (Or.inl ⟨hw, hy⟩) hS h
end Go.Proofs.YtlecbblmaadpiaaGreatDoor
/- What Check and items of layer 5's reference return. (Made by gen/BlkW1.py.) -/
namespace Go.Proofs.YtlecbblmaadpiaaGreatDoor
open Go.RowKit
set_option maxRecDepth 100000 in
set_option maxHeartbeats 1000000 in
theorem ruintV (n : Int) (w : World) :
    Calls Tryz.prog 44 #[.int .u64 n] w fun e w' => e = .returned (.agg #[.int .i64 0, .int .u64 n, .slice none 0 0, .slice none 0 0]) ∧ Below w.heap.size w w' := by
  go_enter Tryz.func44, Tryz.ntmps44
  go_wp2_with fail
  exact bodyPost_ret (v := .agg #[.int .i64 0, .int .u64 n, .slice none 0 0, .slice none 0 0]) (by simp [results, Tryz.results44, go_sem]) rfl ⟨rfl, (Below.refl _ _).alloc (Nat.le_refl _) _⟩
theorem RdI.mask0 {w : World} {B : Nat} {v : Value} {x : Itm} (h : RdI w B v x) : RdI (mask (lows 0) w) B v x := RdI.keep (w := w) (w' := mask (lows 0) w) (fun _ _ => mask_cell (lows_f.2 (Nat.zero_le _))) h
theorem RdIs.unmask {S : Nat → Bool} {w : World} {B b o : Nat} {l : List Itm} (hb : b < B) (h : RdIs (mask S w) B b o l) : RdIs w B b o l := h.sub (Nat.le_refl _) (fun _ _ _ hc => mask_sub hc) hb
set_option maxRecDepth 100000 in
set_option maxHeartbeats 2000000 in
theorem rcheckB_any (t n f : Nat) (c : Int) (A : Option Addr) (nd cd : Nat) (d : List UInt8) (w : World) (hd : d.length = nd) :
    Calls Tryz.prog 81 #[blkV t n f c A nd cd] w fun e w' => e = .returned (.bool (blkOk ⟨t, n, f, c, d⟩)) ∧ Below w.heap.size w w' := by
  obtain ⟨R, hR⟩ : ∃ R, R = blkOk ⟨t, n, f, c, d⟩ := ⟨_, rfl⟩
  rw [← hR]
  have hR2 : R = true ↔ ((1 ≤ (t : Int) ∧ (t : Int) ≤ 255) ∧ ¬ (n : Int) = 0 ∧ (¬ (t : Int) = 1 ∨ (n : Int) = 1) ∧ (0 ≤ c ∧ c ≤ 2) ∧ (nd : Int) ≤ 4096) := by
    rw [hR, ← hd, blkOk_iff]
    simp only
    omega
  clear hR hd
  have hN0 : 0 ≤ (n : Int) := by omega
  unfold blkV
  generalize (t : Int) = T at *
  generalize (n : Int) = N at *
  have no : ∀ (_ : ¬ R = true), R = false := fun h => by simpa using h
  by_cases h1 : T < 1
  · obtain rfl := no (by rw [hR2]; omega)
    clear hR2 no
    have h1n : ¬ 1 ≤ T := by omega
    go_enter Tryz.func81, Tryz.ntmps81
    go_wp2_with fail
    go_ret
    exact ⟨rfl, (Below.refl _ _).alloc (Nat.le_refl _) _⟩
  have h1p : 1 ≤ T := by omega
  by_cases h2 : 255 < T
  · obtain rfl := no (by rw [hR2]; omega)
    clear hR2 no
    have h2n : ¬ T ≤ 255 := by omega
    go_enter Tryz.func81, Tryz.ntmps81
    go_wp2_with fail
    go_ret
    exact ⟨rfl, (Below.refl _ _).alloc (Nat.le_refl _) _⟩
  have h2p : T ≤ 255 := by omega
  by_cases h3 : N = 0
  · obtain rfl := no (by rw [hR2]; omega)
    clear hR2 no
    have h3n : ¬ 0 < N := by omega
    go_enter Tryz.func81, Tryz.ntmps81
    go_wp2_with fail
    go_ret
    exact ⟨rfl, (Below.refl _ _).alloc (Nat.le_refl _) _⟩
  have h3p : 0 < N := by omega
  by_cases h4 : c < 0
  · obtain rfl := no (by rw [hR2]; omega)
    clear hR2 no
    have h4n : ¬ 0 ≤ c := by omega
    go_enter Tryz.func81, Tryz.ntmps81
    go_wp2_with fail
    go_ret
    exact ⟨rfl, (Below.refl _ _).alloc (Nat.le_refl _) _⟩
  have h4p : 0 ≤ c := by omega
  by_cases h5 : 2 < c
  · obtain rfl := no (by rw [hR2]; omega)
    clear hR2 no
    have h5n : ¬ c ≤ 2 := by omega
    go_enter Tryz.func81, Tryz.ntmps81
    go_wp2_with fail
    go_ret
    exact ⟨rfl, (Below.refl _ _).alloc (Nat.le_refl _) _⟩
  have h5p : c ≤ 2 := by omega
  by_cases h6 : (4096 : Int) < nd
  · obtain rfl := no (by rw [hR2]; omega)
    clear hR2 no
    have h6n : ¬ (nd : Int) ≤ 4096 := by omega
    have h6m : 4096 < nd := by omega
    go_enter Tryz.func81, Tryz.ntmps81
    go_wp2_with fail
    go_ret
    exact ⟨rfl, (Below.refl _ _).alloc (Nat.le_refl _) _⟩
  have h6p : (nd : Int) ≤ 4096 := by omega
  have h6q : nd ≤ 4096 := by omega
  have h6d : decide ((nd : Int) ≤ 4096) = true := by simpa using h6p
  by_cases h7 : T = 1
  · subst h7
    by_cases h8 : N = 1
    · subst h8
      obtain rfl : R = true := by rw [hR2]; omega
      clear hR2 no
      go_enter Tryz.func81, Tryz.ntmps81
      go_wp2_with fail
      go_ret
      exact ⟨rfl, (Below.refl _ _).alloc (Nat.le_refl _) _⟩
    · obtain rfl := no (by rw [hR2]; omega)
      have h8b : (N == 1) = false := by rw [beq_eq_false_iff_ne]; exact h8
      clear hR2 no
      go_enter Tryz.func81, Tryz.ntmps81
      go_wp2_with fail
      go_ret
      exact ⟨rfl, (Below.refl _ _).alloc (Nat.le_refl _) _⟩
  · obtain rfl : R = true := by rw [hR2]; omega
    have h7b : (T == 1) = false := by rw [beq_eq_false_iff_ne]; exact h7
    clear hR2 no
    go_enter Tryz.func81, Tryz.ntmps81
    go_wp2_with fail
    go_ret
    exact ⟨rfl, (Below.refl _ _).alloc (Nat.le_refl _) _⟩
end Go.Proofs.YtlecbblmaadpiaaGreatDoor
/- What Sealed of layer 5's reference returns. (Made by gen/BlkW2.py.) -/
namespace Go.Proofs.YtlecbblmaadpiaaGreatDoor
open Go.RowKit
theorem RdIs.app {W : World} {B b : Nat} : ∀ {l m : List Itm} {o : Nat}, RdIs W B b o l → RdIs W B b (o + l.length * 4) m → RdIs W B b o (l ++ m)
  | [], m, o, _, h => by simpa using h
  | x :: r, m, o, h, h2 => by
    rw [List.cons_append]
    rw [RdIs] at h ⊢
    refine ⟨h.1, RdIs.app h.2 ?_⟩
    rw [List.length_cons, show o + (r.length + 1) * 4 = o + 4 + r.length * 4 by omega] at h2
    exact h2
set_option maxRecDepth 100000 in
set_option maxHeartbeats 1000000 in
theorem rbytesL_any (lo : Nat) (A : Option Addr) (n c B : Nat) (l : List UInt8) (w : World) (hlo : lo ≤ w.heap.size) (hB : B ≤ w.heap.size) (h : Rd w B A n l) (hn : n ≤ 140737488355328) :
    Calls Tryz.prog 80 #[.slice A n c] w (GivesL lo (.mk 2 0 l []) w) := by
  have HR := Lib.hid ((h.alloc hB (.cells #[.int .i64 0, .int .u64 0, .slice none 0 0, .slice none 0 0] 30)).alloc (Nat.le_trans hB (le_alloc _ _)) (.cells #[] 5))
  have HO := Lib.hid (show Ob ((w.alloc (.cells #[.int .i64 0, .int .u64 0, .slice none 0 0, .slice none 0 0] 30)).alloc (.cells #[] 5)) (w.heap.size + 1) 5 (.slice (some ⟨w.heap.size + 1, 0, none⟩) 0 0) [] by
    have h := Ob.lit (base := w.heap.size + 1) (t := 5) (w.alloc (.cells #[.int .i64 0, .int .u64 0, .slice none 0 0, .slice none 0 0] 30)) [] #[] rfl (by simp) 0 rfl (by decide)
    simpa using h)
  have HN : Hid (([] : List UInt8).length + n ≤ 140737488355328) := by show _ ≤ _; simp; exact hn
  have hl := h.1
  have HLN := Lib.hid hl
  have HLO := Lib.hid hlo
  clear h hn hl hB hlo
  go_enter Tryz.func80, Tryz.ntmps80
  go_wp2_with (first
    | (at_builtin; refine wpList_appB rfl (.tmp 3) (.tmp 4) 27 rfl (w.heap.size + 1) 5 Tryz.underlying27 info_u8 _ [] rfl HO.out B A n c l rfl HR.out HN.out (by simp) ?_; intro v1 w1 ho1 hb1; have O1 := Lib.hid ho1; have B1 := Lib.hid (((Below.refl (w.heap.size + 1) (w.alloc (.cells #[.int .i64 0, .int .u64 0, .slice none 0 0, .slice none 0 0] 30))).alloc (by simp) _).trans hb1); obtain ⟨⟨z0, z1, z2, z3⟩, f0, f1, f2, f3⟩ := zero_cells B1.out; have ho2 := O1.out; rw [List.nil_append] at ho2; obtain ⟨A2, c2, rfl, hc2, hm2, hr2⟩ := ho2.rdn HLN.out; have HR2 := Lib.hid hr2; have HO2 := Lib.hid ho2; clear ho1 hb1 hr2 ho2)
    | fail)
  have hblk : ∀ b o, 0 < n → A2 = some ⟨b, o, none⟩ → w.heap.size < b := by
    intro b o hn h
    obtain ⟨g, cap, hv, hg, _, _⟩ := HO2.out.form (by rw [HLN.out]; exact hn)
    subst h
    cases hv
    omega
  have HLO' := HLO.out
  refine bodyPost_ret (v := .agg #[.int .i64 2, .int .u64 0, .slice A2 n c2, .slice none 0 0]) (by simp [results, Tryz.results80, go_sem, z0, z1, z2, z3]) rfl ⟨_, rfl, RdI.mk_data (by decide) hc2 (by have := HN.out; simpa using this) (Rd.mask_any ?_ (fun hn b o h => by have := hblk b o hn h; omega)), ?_⟩
  · refine Rd.set4 (HR2.out.more (by simp [World.setCell])) (fun hn b o h => ?_)
    have := hblk b o hn h
    omega
  · exact below_set4 (((Below.refl _ _).alloc (Nat.le_refl _) _).trans (B1.out.mono (Nat.le_succ _))) (Nat.le_refl _)
theorem cells4_at (W : World) (c0 c1 c2 c3 : Value) {t : TypeId} : ∀ j u, ([c0, c1, c2, c3] : List Value)[j]? = some u → (W.alloc (.cells #[c0, c1, c2, c3] t)).cell? ((⟨W.heap.size, 0, none⟩ : Addr).add j) = some u := fun j u hj => by
  rw [show (⟨W.heap.size, 0, none⟩ : Addr).add j = ⟨W.heap.size, j, none⟩ by unfold Addr.add; split <;> simp_all, World.cell?_alloc_at _ _ _ _ rfl]
  simpa using hj
theorem one4 (k n : Int) (A : Option Addr) (nd cd : Nat) (AL : Option Addr) (nl cl : Nat) : ∀ u ∈ ([.int .i64 k, .int .u64 n, .slice A nd cd, .slice AL nl cl] : List Value), u.oneCell' = true := fun u hu => by
  simp only [List.mem_cons, List.not_mem_nil, or_false] at hu
  rcases hu with rfl | rfl | rfl | rfl <;> rfl
theorem app_below {w w' : World} {base g n cap : Nat} {e : TypeId} {xs : List Value} (ho : w.ownsRow base e 4 (.slice (some ⟨g, 0, none⟩) n cap) n xs) (hg : w.grownBy w' (some g)) (hb : base ≤ w.heap.size) : Below base w w' := grown_below ho hg hb
theorem step3 {w a w3 : World} {base g n cap : Nat} {e : TypeId} {xs : List Value} (h0 : Below base w a) (ho : a.ownsRow base e 4 (.slice (some ⟨g, 0, none⟩) n cap) n xs) (hg : a.grownBy w3 (some g)) (hb : base ≤ a.heap.size) : Below base w w3 := h0.trans (app_below ho hg hb)
theorem own_cap {w : World} {base g n cap : Nat} {e : TypeId} {xs : List Value} (h : w.ownsRow base e 4 (.slice (some ⟨g, 0, none⟩) n cap) n xs) : n ≤ cap := by
  rcases h.2 with ⟨hv, _⟩ | ⟨g', cap', cur, hv, _, _, hnc, _⟩
  · cases hv
  · injection hv with _ _ h3
    omega
end Go.Proofs.YtlecbblmaadpiaaGreatDoor
