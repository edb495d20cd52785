/- What Encode of layer 5 return. -/
import Derived.Test.YtanbjifdcplmnaaGreatDoorTBlkD
import Derived.Test.YtanbjifdcplmnaaGreatDoorTBlkE
import Derived.Test.YtanbjifdcplmnaaGreatDoorTBlkL
import Derived.Test.YtanbjifdcplmnaaGreatDoorTBlkW1
import Derived.Test.YtanbjifdcplmnaaGreatDoorTCfBlockTells
import Derived.Test.YtanbjifdcplmnaaGreatDoorTSame
namespace Go.Proofs.YtanbjifdcplmnaaGreatDoor
open Go.RowKit

set_option maxRecDepth 100000 in
set_option maxHeartbeats 2000000 in
theorem bencode_any (b : Blk) (A : Option Addr) (nd cd B : Nat) (w : World) (hb : Bd b) (hB : B ≤ w.heap.size) (h : Rd w B A nd b.dat) (hL : LaidE w) :
    Calls Tryz.prog 32 #[blkV b.typ b.num b.flg b.crc A nd cd] w fun e w' => ∃ v, e = .returned (.tuple #[v, .int .i64 (if blkOk b = true then 0 else 50)]) ∧ Ob w' w.heap.size 5 v (if blkOk b = true then blkW b else []) ∧ Below w.heap.size w w' := by
  have hB1 := (Below.refl w.heap.size w).alloc (Nat.le_refl _) (.cells #[.int .u64 (b.typ : Int), .int .u64 (b.num : Int), .int .u64 (b.flg : Int), .int .i64 b.crc, .slice A nd cd] 25)
  have C1 := Lib.hid (bcheck_any b.typ b.num b.flg b.crc A nd cd b.dat (w.alloc (.cells #[.int .u64 (b.typ : Int), .int .u64 (b.num : Int), .int .u64 (b.flg : Int), .int .i64 b.crc, .slice A nd cd] 25)) h.1)
  have C2 := Lib.hid (fun (hok : blkOk b = true) W (hw : Below w.heap.size w W) => bwrite_any b A nd cd B W hok hb (Nat.le_trans hB hw.size) (h.below (hw.mono hB)))
  have C3 := Lib.hid (fun z s W (hw : Below w.heap.size w W) => bnumber_any z s W (hL.below hw hL.lt))
  have q1 := fun (W : World) (u : TypeId) (x : Value) => run_neq_iface_nil (P := Tryz.prog) (w := W) 60 (by kernel_rfl) u x
  have HB1 := Lib.hid hB1
  clear h hb hB hL hB1
  have e1 : (⟨b.typ, b.num, b.flg, b.crc, b.dat⟩ : Blk) = b := rfl
  rw [e1] at C1
  clear e1
  generalize b.typ = T at *
  generalize b.num = N at *
  generalize b.flg = F at *
  generalize b.crc = CR at *
  generalize hR : blkOk b = R at *
  clear hR
  generalize blkW b = BW at *
  unfold blkV at *
  go_enter Tryz.func32, Tryz.ntmps32
  go_wp2_with fail
  refine C1.out.mono ?_
  rintro e w1 ⟨hb1, ⟨rfl, rfl⟩ | ⟨rfl, s, rfl⟩⟩
  · obtain ⟨x0, x1, x2, x3, x4⟩ := box5 rfl (hb1.mono (show w.heap.size + 1 ≤ _ by simp))
    have B1 := Lib.hid (HB1.out.trans (hb1.mono (le_alloc _ _)))
    clear hb1
    go_wp2_with fail
    refine (C2.out trivial _ B1.out).mono ?_
    rintro e w2 ⟨v2, rfl, ho2, hb2⟩
    have O2 := Lib.hid (ho2.low B1.out.size)
    have B2 := Lib.hid (B1.out.trans (hb2.mono B1.out.size))
    obtain ⟨A2, c2, rfl, -, -, -⟩ := ho2.rd
    clear ho2 hb2
    go_wp2_with fail
    go_ret2
    exact ⟨_, rfl, O2.out, B2.out⟩
  · have B1 := Lib.hid (HB1.out.trans (hb1.mono (le_alloc _ _)))
    clear hb1
    unfold bfl at *
    go_wp2_with fail
    refine (C3.out 50 s _ B1.out).mono ?_
    rintro e w2 ⟨rfl, hb2⟩
    have B2 := Lib.hid (B1.out.trans (hb2.mono B1.out.size))
    clear hb2
    go_wp2_with fail
    go_ret2
    exact ⟨_, rfl, Ob.nil_ _ _ _, B2.out⟩

end Go.Proofs.YtanbjifdcplmnaaGreatDoor
/- What Hops of layer 5 returns, of a block of hops. -/
namespace Go.Proofs.YtanbjifdcplmnaaGreatDoor
open Go.RowKit

set_option maxRecDepth 100000 in
set_option maxHeartbeats 8000000 in
theorem hops_ok (t n f : Nat) (c : Int) (A : Option Addr) (nd cd B : Nat) (d : List UInt8) (m a q : Nat) (e0 d0 d1 : List UInt8) (l0 l1 : List Itm) (w : World) (hB : B ≤ w.heap.size) (h : Rd w B A nd d) (hn : nd ≤ 140737488355328) (hc : nd ≤ cd) (hL : LaidE w)
    (hx : contB t 10 d = some (.mk 4 m e0 [.mk 0 a d0 l0, .mk 0 q d1 l1])) (h1 : 1 ≤ a) (h2 : a ≤ 255) :
    Calls Tryz.prog 12 #[blkV t n f c A nd cd] w fun e w' => e = .returned (.tuple #[.int .u64 (a : Int), .int .u64 (q : Int), .bool true]) ∧ Below w.heap.size w w' := by
  have HB0 := Lib.hid ((Below.refl w.heap.size w).alloc (Nat.le_refl _) (.cells #[.int .u64 (t : Int), .int .u64 (n : Int), .int .u64 (f : Int), .int .i64 c, .slice A nd cd] 25))
  have C1 := Lib.hid (contents_any t n f 10 c A nd cd B d (w.alloc (.cells #[.int .u64 (t : Int), .int .u64 (n : Int), .int .u64 (f : Int), .int .i64 c, .slice A nd cd] 25)) (Nat.le_trans hB (le_alloc _ _)) (h.alloc hB _) hn hc (hL.below HB0.out hL.lt))
  rw [hx] at C1
  have hs0 : (w.alloc (.cells #[.int .u64 (t : Int), .int .u64 (n : Int), .int .u64 (f : Int), .int .i64 c, .slice A nd cd] 25)).heap.size = w.heap.size + 1 := by simp
  have h1i : ¬ (a : Int) < 1 := by omega
  have h2i : ¬ 255 < (a : Int) := by omega
  have h1j : 1 ≤ (a : Int) := by omega
  have h2j : (a : Int) ≤ 255 := by omega
  have CU := Lib.hid (fun (n : Nat) (v2 v3 : Value) (W : World) (g2 : v2.oneCell' = true) (g3 : v3.oneCell' = true) => uintof_any 0 n v2 v3 true W g2 g3 rfl)
  clear h hB hn hc hL hx h1 h2
  unfold blkV at *
  go_enter Tryz.func12, Tryz.ntmps12
  go_wp2_with fail
  refine C1.out.mono ?_
  rintro e w1 ⟨hb, ⟨v, x, hxx, rfl, hv⟩ | ⟨hxx, -⟩⟩
  case inr => cases hxx
  obtain rfl := Option.some.inj hxx
  rw [hs0] at hb
  have hv' := hv.unmask
  obtain ⟨A1, nd1, cd1, AL, cl1, rfl, -, -, -, -, hcl, hrow⟩ := hv'.open
  obtain ⟨b, o, rfl, hbb, hs⟩ := hrow (by simp)
  rw [RdIs, RdIs] at hs
  obtain ⟨⟨a00, a01, a02, a03, i0, i1, i2, i3, x0⟩, ⟨a10, a11, a12, a13, j0, j1, j2, j3, x1⟩, -⟩ := hs
  obtain ⟨_, _, _, _, _, hy0, -, -, -, -, -, -⟩ := x0.open
  obtain ⟨_, _, _, _, _, hy1, -, -, -, -, -, -⟩ := x1.open
  injection hy0 with hy0
  injection hy1 with hy1
  simp only [Array.mk.injEq, List.cons.injEq, and_true] at hy0 hy1
  obtain ⟨rfl, rfl, rfl, rfl⟩ := hy0
  obtain ⟨rfl, rfl, rfl, rfl⟩ := hy1
  simp only [List.length_cons, List.length_nil, Nat.zero_add] at hcl ⊢
  have hw1 : w.heap.size + 1 ≤ w1.heap.size := by have := hb.size; rw [hs0] at this; exact this
  have B1 := Lib.hid ((HB0.out.trans (hb.mono (Nat.le_succ _))))
  clear hb hv hv' hrow hxx x0 x1 C1
  generalize l0.length = L0 at *
  generalize l1.length = L1 at *
  have hb2 : Below w1.heap.size w1 (w1.alloc (.cells #[.int .i64 4, .int .u64 (m : Int), .slice A1 nd1 cd1, .slice (some ⟨b, o, none⟩) 2 cl1] 37)) := by exact (Below.refl _ _).alloc (Nat.le_refl _) _
  have k : ∀ (W : World) (_ : Below w1.heap.size w1 W) (j : Nat) (u : Value), w1.cell? ⟨b, j, none⟩ = some u → W.cell? ⟨b, j, none⟩ = some u := fun W hW j u hc => (hW.cell (p := ⟨b, j, none⟩) hbb).trans hc
  have t3 : (w1.alloc (.cells #[.int .i64 4, .int .u64 (m : Int), .slice A1 nd1 cd1, .slice (some ⟨b, o, none⟩) 2 cl1] 37)).cell? ⟨w1.heap.size, 3, none⟩ = some (.slice (some ⟨b, o, none⟩) 2 cl1) := by rw [World.cell?_alloc_at _ _ _ _ rfl]; rfl
  have t0 : (w1.alloc (.cells #[.int .i64 4, .int .u64 (m : Int), .slice A1 nd1 cd1, .slice (some ⟨b, o, none⟩) 2 cl1] 37)).cell? ⟨w1.heap.size, 0, none⟩ = some (.int .i64 4) := by rw [World.cell?_alloc_at _ _ _ _ rfl]; rfl
  have T3 := Lib.hid t3
  have a0 := k _ hb2 _ _ i0
  have a1 := k _ hb2 _ _ i1
  have a2 := k _ hb2 _ _ i2
  have a3 := k _ hb2 _ _ i3
  have hz2 : (w1.alloc (.cells #[.int .i64 4, .int .u64 (m : Int), .slice A1 nd1 cd1, .slice (some ⟨b, o, none⟩) 2 cl1] 37)).heap.size = w1.heap.size + 1 := by simp
  have HB2 := Lib.hid hb2
  have HJ := Lib.hid (And.intro j0 (And.intro j1 (And.intro j2 j3)))
  have HK := Lib.hid k
  have HZ2 := Lib.hid hz2
  clear i0 i1 i2 i3 j0 j1 j2 j3 k hb2 hz2
  go_wp2_with fail
  refine (CU.out a (.slice _ _ _) (.slice _ _ _) _ rfl rfl).mono ?_
  rintro e w3 ⟨rfl, hb3⟩
  have b3 := HB2.out.trans (hb3.mono (by have := HZ2.out; omega))
  have t3' := (hb3.cell (p := ⟨w1.heap.size, 3, none⟩) (by have := HZ2.out; show w1.heap.size < _; omega)).trans T3.out
  have c0 := HK.out _ b3 _ _ HJ.out.1
  have c1 := HK.out _ b3 _ _ HJ.out.2.1
  have c2 := HK.out _ b3 _ _ HJ.out.2.2.1
  have c3 := HK.out _ b3 _ _ HJ.out.2.2.2
  have B3 := Lib.hid b3
  clear hb3 b3 t3 t0 a0 a1 a2 a3
  go_wp2_with fail
  refine (CU.out q (.slice _ _ _) (.slice _ _ _) _ rfl rfl).mono ?_
  rintro e w4 ⟨rfl, hb4⟩
  have B4 := Lib.hid (B3.out.trans (hb4.mono B3.out.size))
  clear hb4
  go_wp2_with fail
  exact bodyPost_ret (v := .tuple #[.int .u64 (a : Int), .int .u64 (q : Int), .bool true]) (by simp [results, Tryz.results12, go_sem]) rfl ⟨rfl, B1.out.trans (B4.out.mono (by omega))⟩
end Go.Proofs.YtanbjifdcplmnaaGreatDoor
/- Same of layer 3's reference, of every two items. (Made of EidQ.) -/
namespace Go.Proofs.YtanbjifdcplmnaaGreatDoor
open Go.RowKit

set_option maxRecDepth 100000 in
set_option maxHeartbeats 4000000 in
theorem rsameG_n : ∀ (m : Nat) (x y : Itm) (v v' : Value) (w : World) (B : Nat), par y < m → B ≤ w.heap.size → RdI w B v x → RdI w B v' y →
    Calls Tryz.prog 29 #[v, v'] w (Eqs x y w)
  | 0, _, _, _, _, _, _, h, _, _, _ => absurd h (Nat.not_lt_zero _)
  | m + 1, .mk k n d l, .mk k' n' d' l', v, v', w, B, hm, hB, h, h' => by
    obtain ⟨A, nd, cd, AL, cl, rfl, h1, h2, h3, h4, h5, h7⟩ := h.open
    obtain ⟨A', nd', cd', AL', cl', rfl, h1', h2', h3', h4', h5', h7'⟩ := h'.open
    have IH := Lib.hid (rsameG_n m)
    have H7 := Lib.hid h7
    have H7' := Lib.hid h7'
    have C1 := Lib.hid (fun W (hb : Below w.heap.size w W) => same_any A A' nd cd nd' cd' B B d d' W (h4.below (hb.mono hB)) (h4'.below (hb.mono hB)))
    have HM : Hid (pars l' < m) := by show _ < _; rw [par] at hm; omega
    have HBW := Lib.hid hB
    have XY : Hid (Itm.mk k n d l = Itm.mk k' n' d' l' ↔ k = k' ∧ (n : Int) = (n' : Int) ∧ d = d' ∧ l = l') := by
      show _ ↔ _
      rw [Itm.mk.injEq]
      constructor
      · rintro ⟨a, b, c, e⟩; exact ⟨a, by rw [b], c, e⟩
      · rintro ⟨a, b, c, e⟩; exact ⟨a, by omega, c, e⟩
    have HL5 := Lib.hid h5.2
    clear h1 h4 h7 h h1' h4' h7' h' h2' h2 h3 h3' h5 h5' hm hB
    generalize hL : l.length = N at *
    generalize hL' : l'.length = N' at *
    have HL := Lib.hid hL
    have HL' := Lib.hid hL'
    clear hL hL'
    generalize (n : Int) = nn at *
    generalize (n' : Int) = nn' at *
    have HB0 := Lib.hid (((Below.refl w.heap.size w).alloc (Nat.le_refl _) (.cells #[.int .i64 k, .int .u64 nn, .slice A nd cd, .slice AL N cl] 37)).alloc (le_alloc _ _) (.cells #[.int .i64 k', .int .u64 nn', .slice A' nd' cd', .slice AL' N' cl'] 37))
    by_cases e1 : k = k'
    case neg =>
      have t1 : (k != k') = true := by simp [e1]
      have t2 : (k == k') = false := by simp [e1]
      have HF : Hid (∀ w', Below w.heap.size w w' → Eqs (.mk k n d l) (.mk k' n' d' l') w (.returned (.bool false)) w') := fun w' hb => ⟨false, rfl, by rw [XY.out]; simp [e1], hb⟩
      clear IH H7 H7' C1
      go_enter Tryz.func29, Tryz.ntmps29
      go_wp2_with fail
      go_ret
      exact HF.out _ HB0.out
    subst e1
    by_cases e2 : nn = nn'
    case neg =>
      have t1 : (nn != nn') = true := by simp [e2]
      have t2 : (nn == nn') = false := by simp [e2]
      have HF : Hid (∀ w', Below w.heap.size w w' → Eqs (.mk k n d l) (.mk k n' d' l') w (.returned (.bool false)) w') := fun w' hb => ⟨false, rfl, by rw [XY.out]; simp [e2], hb⟩
      clear IH H7 H7' C1
      go_enter Tryz.func29, Tryz.ntmps29
      go_wp2_with fail
      go_ret
      exact HF.out _ HB0.out
    subst e2
    by_cases e3 : d = d'
    case neg =>
      have HF : Hid (∀ w', Below w.heap.size w w' → Eqs (.mk k n d l) (.mk k n' d' l') w (.returned (.bool false)) w') := fun w' hb => ⟨false, rfl, by rw [XY.out]; simp [e3], hb⟩
      have e3' : (d == d') = false := beq_eq_false_iff_ne.2 e3
      rw [e3'] at C1
      clear IH H7 H7' e3'
      go_enter Tryz.func29, Tryz.ntmps29
      go_wp2_with fail
      refine (C1.out _ HB0.out).mono ?_
      rintro e w1 ⟨rfl, rfl⟩
      go_wp2_with fail
      go_ret
      exact HF.out _ HB0.out
    subst e3
    rw [show (d == d) = true by simp] at C1
    by_cases e4 : N = N'
    case neg =>
      have HF : Hid (∀ w', Below w.heap.size w w' → Eqs (.mk k n d l) (.mk k n' d l') w (.returned (.bool false)) w') := fun w' hb => ⟨false, rfl, by rw [XY.out]; simp; intro h; exact e4 (by rw [← HL.out, ← HL'.out, h]), hb⟩
      have e4i : ((N : Int) == (N' : Int)) = false := by rw [beq_eq_false_iff_ne]; omega
      have e4n : ((N : Int) != (N' : Int)) = true := by rw [bne_iff_ne]; omega
      clear IH H7 H7' e4
      go_enter Tryz.func29, Tryz.ntmps29
      go_wp2_with fail
      refine (C1.out _ HB0.out).mono ?_
      rintro e w1 ⟨rfl, rfl⟩
      go_wp2_with fail
      go_ret
      exact HF.out _ HB0.out
    subst e4
    have HT : Hid (∀ (r : Bool) w', (r = true ↔ l = l') → Below w.heap.size w w' → Eqs (.mk k n d l) (.mk k n' d l') w (.returned (.bool r)) w') := fun r w' hr hb => ⟨r, rfl, by rw [XY.out, hr]; simp, hb⟩
    clear XY
    go_enter Tryz.func29, Tryz.ntmps29
    go_wp2_with fail
    refine (C1.out _ HB0.out).mono ?_
    rintro e w1 ⟨rfl, rfl⟩
    clear C1
    go_wp2_with fail
    have f1 : ((w.alloc (.cells #[.int .i64 k, .int .u64 nn, .slice A nd cd, .slice AL N cl] 37)).alloc (.cells #[.int .i64 k, .int .u64 nn, .slice A' nd' cd', .slice AL' N cl'] 37)).cell? ⟨w.heap.size, 3, none⟩ = some (.slice AL N cl) := by simp
    have f2 : ((w.alloc (.cells #[.int .i64 k, .int .u64 nn, .slice A nd cd, .slice AL N cl] 37)).alloc (.cells #[.int .i64 k, .int .u64 nn, .slice A' nd' cd', .slice AL' N cl'] 37)).cell? ⟨w.heap.size + 1, 3, none⟩ = some (.slice AL' N cl') := by simp
    have fz : ((w.alloc (.cells #[.int .i64 k, .int .u64 nn, .slice A nd cd, .slice AL N cl] 37)).alloc (.cells #[.int .i64 k, .int .u64 nn, .slice A' nd' cd', .slice AL' N cl'] 37)).heap.size = w.heap.size + 2 := by simp
    have F1 := Lib.hid f1
    have F2 := Lib.hid f2
    have FZ := Lib.hid fz
    clear f1 f2 fz
    generalize ((w.alloc (.cells #[.int .i64 k, .int .u64 nn, .slice A nd cd, .slice AL N cl] 37)).alloc (.cells #[.int .i64 k, .int .u64 nn, .slice A' nd' cd', .slice AL' N cl'] 37)) = W0 at *
    go_loopw [4, 5] (fun rs i wr => ∃ j : Nat, j ≤ N ∧ rs = .bool false ∧ i = .int .i64 j ∧ Hid (Below (w.heap.size + 2) W0 wr) ∧ Hid (l.take j = l'.take j))
      (fun _ i _ => N - (intOf i).toNat)
    case atStart => exact ⟨0, Nat.zero_le _, rfl, rfl, Below.refl _ _, by show _ = _; simp⟩
    case round =>
      obtain ⟨j, hj, rfl, rfl, hbel, htake⟩ := hrel
      have q1 : wr.cell? ⟨w.heap.size, 3, none⟩ = some (.slice AL N cl) := (hbel.out.cell (p := ⟨w.heap.size, 3, none⟩) (by simp)).trans F1.out
      have q2 : wr.cell? ⟨w.heap.size + 1, 3, none⟩ = some (.slice AL' N cl') := (hbel.out.cell (p := ⟨w.heap.size + 1, 3, none⟩) (by simp)).trans F2.out
      have hsz : w.heap.size + 2 ≤ wr.heap.size := by have := hbel.out.size; have := FZ.out; omega
      have hs' : Below w.heap.size w wr := HB0.out.trans (hbel.out.mono (by omega))
      have HS := Lib.hid hs'
      by_cases hlt : j < N
      · obtain ⟨b, o, rfl, hb, hs⟩ := H7.out (by omega)
        obtain ⟨b', o', rfl, hb', hs2⟩ := H7'.out (by omega)
        have hjl : j < l.length := by rw [HL.out]; exact hlt
        have hjl' : j < l'.length := by rw [HL'.out]; exact hlt
        obtain ⟨c0, c1, c2, c3, g0, g1, g2, g3, gx⟩ := hs.get j hjl
        obtain ⟨x0, x1, x2, x3, p0, p1, p2, p3, px⟩ := hs2.get j hjl'
        have hB := HBW.out
        have e0 : wr.cell? ⟨b, o + j * 4, none⟩ = some c0 := (hs'.cell (p := ⟨b, o + j * 4, none⟩) (by show b < _; omega)).trans g0
        have e1 : wr.cell? ⟨b, o + j * 4 + 1, none⟩ = some c1 := (hs'.cell (p := ⟨b, o + j * 4 + 1, none⟩) (by show b < _; omega)).trans g1
        have e2 : wr.cell? ⟨b, o + j * 4 + 2, none⟩ = some c2 := (hs'.cell (p := ⟨b, o + j * 4 + 2, none⟩) (by show b < _; omega)).trans g2
        have e3 : wr.cell? ⟨b, o + j * 4 + 3, none⟩ = some c3 := (hs'.cell (p := ⟨b, o + j * 4 + 3, none⟩) (by show b < _; omega)).trans g3
        have r0 : wr.cell? ⟨b', o' + j * 4, none⟩ = some x0 := (hs'.cell (p := ⟨b', o' + j * 4, none⟩) (by show b' < _; omega)).trans p0
        have r1 : wr.cell? ⟨b', o' + j * 4 + 1, none⟩ = some x1 := (hs'.cell (p := ⟨b', o' + j * 4 + 1, none⟩) (by show b' < _; omega)).trans p1
        have r2 : wr.cell? ⟨b', o' + j * 4 + 2, none⟩ = some x2 := (hs'.cell (p := ⟨b', o' + j * 4 + 2, none⟩) (by show b' < _; omega)).trans p2
        have r3 : wr.cell? ⟨b', o' + j * 4 + 3, none⟩ = some x3 := (hs'.cell (p := ⟨b', o' + j * 4 + 3, none⟩) (by show b' < _; omega)).trans p3
        have hpg : par (l'[j]'hjl') ≤ pars l' := par_get _
        have hmm := HM.out
        have C1 := Lib.hid (IH.out (l[j]'hjl) (l'[j]'hjl') _ _ wr.drew B (by omega) (by show B ≤ wr.heap.size; omega) ((gx.below (hs'.mono hB)).below Below.drew_) ((px.below (hs'.mono hB)).below Below.drew_))
        have HE1 : Hid (l[j]'hjl = l'[j]'hjl' → l.take (j + 1) = l'.take (j + 1)) := fun he => by rw [List.take_succ_eq_append_getElem hjl, List.take_succ_eq_append_getElem hjl', htake.out, he]
        have HE2 : Hid (l[j]'hjl ≠ l'[j]'hjl' → l ≠ l') := fun he h => he (by subst h; rfl)
        generalize l[j]'hjl = xj at *
        generalize l'[j]'hjl' = yj at *
        clear g0 g1 g2 g3 gx hs hs' p0 p1 p2 p3 px hs2 hpg hmm hjl hjl'
        have i0 : (0 : Int) ≤ (j : Int) := by omega
        have i1 : (j : Int) < (N : Int) := by omega
        have i2 : (N : Int) ≤ 140737488355328 := by have := HL5.out; omega
        have HHB := Lib.hid hB
        have HZ := Lib.hid hsz
        have HBb := Lib.hid hb
        have HBb' := Lib.hid hb'
        clear hB hsz hb hb'
        go_wp2_with fail
        go_region_held3 (fun W => W.cell? ⟨w.heap.size, 3, none⟩ = some (.slice (some ⟨b, o, none⟩) N cl) ∧ W.cell? ⟨w.heap.size + 1, 3, none⟩ = some (.slice (some ⟨b', o', none⟩) N cl') ∧
            W.cell? ⟨b, o + j * 4, none⟩ = some c0 ∧ W.cell? ⟨b, o + j * 4 + 1, none⟩ = some c1 ∧ W.cell? ⟨b, o + j * 4 + 2, none⟩ = some c2 ∧ W.cell? ⟨b, o + j * 4 + 3, none⟩ = some c3 ∧
            W.cell? ⟨b', o' + j * 4, none⟩ = some x0 ∧ W.cell? ⟨b', o' + j * 4 + 1, none⟩ = some x1 ∧ W.cell? ⟨b', o' + j * 4 + 2, none⟩ = some x2 ∧ W.cell? ⟨b', o' + j * 4 + 3, none⟩ = some x3)
          (first | (exact ⟨q1, q2, e0, e1, e2, e3, r0, r1, r2, r3⟩) | (exact ⟨(HB1.out.cell (p := ⟨w.heap.size, 3, none⟩) (by have := HZ.out; show w.heap.size < _; omega)).trans q1, (HB1.out.cell (p := ⟨w.heap.size + 1, 3, none⟩) (by have := HZ.out; show w.heap.size + 1 < _; omega)).trans q2,
              (HB1.out.cell (p := ⟨b, o + j * 4, none⟩) HLb.out).trans e0, (HB1.out.cell (p := ⟨b, o + j * 4 + 1, none⟩) HLb.out).trans e1, (HB1.out.cell (p := ⟨b, o + j * 4 + 2, none⟩) HLb.out).trans e2, (HB1.out.cell (p := ⟨b, o + j * 4 + 3, none⟩) HLb.out).trans e3,
              (HB1.out.cell (p := ⟨b', o' + j * 4, none⟩) HLb'.out).trans r0, (HB1.out.cell (p := ⟨b', o' + j * 4 + 1, none⟩) HLb'.out).trans r1, (HB1.out.cell (p := ⟨b', o' + j * 4 + 2, none⟩) HLb'.out).trans r2, (HB1.out.cell (p := ⟨b', o' + j * 4 + 3, none⟩) HLb'.out).trans r3⟩) | fail)
          (first
            | (go_at_call 29; refine C1.out.mono ?_; rintro e w1 ⟨rr, rfl, hrr, hb1⟩; have HRR := Lib.hid hrr; have HB1 := Lib.hid (((Below.refl wr.heap.size wr).drew).trans hb1); have HLb : Hid (b < wr.heap.size) := Nat.lt_of_lt_of_le HBb.out (Nat.le_trans HHB.out (Nat.le_trans (Nat.le_add_right _ 2) HZ.out)); have HLb' : Hid (b' < wr.heap.size) := Nat.lt_of_lt_of_le HBb'.out (Nat.le_trans HHB.out (Nat.le_trans (Nat.le_add_right _ 2) HZ.out)); clear hb1 hrr)
            | fail)
        cases rr with
        | true =>
          have HEQ : Hid (l.take (j + 1) = l'.take (j + 1)) := HE1.out (HRR.out.1 rfl)
          go_wp2_with fail
          go_roundw
          case rel => exact ⟨j + 1, by omega, rfl, by go_num, hbel.out.trans (HB1.out.mono HZ.out), HEQ.out⟩
          case measure => simp [intOf]; omega
        | false =>
          have HNE : Hid (l ≠ l') := HE2.out (fun h => by have := HRR.out.2 h; cases this)
          go_wp2_with fail
          go_ret
          exact HT.out _ _ (by simp; exact HNE.out) (HS.out.trans (HB1.out.mono HS.out.size))
      · obtain rfl : j = N := by omega
        have HEQ : Hid (l = l') := by
          have h := htake.out
          rw [List.take_of_length_le (Nat.le_of_eq HL.out), List.take_of_length_le (Nat.le_of_eq HL'.out)] at h
          exact h
        clear hs'
        have hjj : decide ((j : Int) < (j : Int)) = false := by simp
        go_wp2_with fail
        go_ret
        exact HT.out _ _ (by simp; exact HEQ.out) HS.out
end Go.Proofs.YtanbjifdcplmnaaGreatDoor
/- What few of layer 5's statements returns. -/
namespace Go.Proofs.YtanbjifdcplmnaaGreatDoor
open Go.RowKit

set_option maxRecDepth 100000 in
set_option maxHeartbeats 1000000 in
theorem few_any (t n f : Nat) (c : Int) (A : Option Addr) (nd cd : Nat) (R : Bool) (w : World) (hR : R = decide (nd ≤ 5000)) :
    Calls Tryz.prog 10 #[blkV t n f c A nd cd] w fun e w' => e = .returned (.bool R) ∧ Below w.heap.size w w' := by
  have HB := Lib.hid ((Below.refl w.heap.size w).alloc (Nat.le_refl _) (.cells #[.int .u64 (t : Int), .int .u64 (n : Int), .int .u64 (f : Int), .int .i64 c, .slice A nd cd] 25))
  have h2 : decide ((nd : Int) ≤ 5000) = R := by rw [hR, Bool.eq_iff_iff]; simp; omega
  have HRR := Lib.hid hR
  clear hR
  unfold blkV
  go_enter Tryz.func10, Tryz.ntmps10
  go_wp2_with fail
  go_ret
  exact ⟨by first | (rw [HRR.out]; done) | (rw [HRR.out]; rfl) | (rw [HRR.out]; simp), HB.out⟩

end Go.Proofs.YtanbjifdcplmnaaGreatDoor
/- What Same of layer 5's reference returns. -/
namespace Go.Proofs.YtanbjifdcplmnaaGreatDoor
open Go.RowKit

set_option maxRecDepth 100000 in
set_option maxHeartbeats 2000000 in
theorem rsameB_true (t n f : Nat) (c : Int) (A A' : Option Addr) (nd cd cd' B : Nat) (d : List UInt8) (w : World) (hB : B ≤ w.heap.size) (h : Rd w B A nd d) (h' : Rd w B A' nd d) :
    Calls Tryz.prog 8 #[blkV t n f c A nd cd, blkV t n f c A' nd cd'] w fun e w' => e = .returned (.bool true) ∧ Below w.heap.size w w' := by
  have hb := ((Below.refl w.heap.size w).alloc (Nat.le_refl _) (.cells #[.int .u64 (t : Int), .int .u64 (n : Int), .int .u64 (f : Int), .int .i64 c, .slice A nd cd] 25)).alloc (le_alloc _ _) (.cells #[.int .u64 (t : Int), .int .u64 (n : Int), .int .u64 (f : Int), .int .i64 c, .slice A' nd cd'] 25)
  have C1 := Lib.hid (same_true A A' nd cd nd cd' B B d _ (h.below (hb.mono hB)) (h'.below (hb.mono hB)))
  have HB := Lib.hid hb
  clear hb h h' hB
  unfold blkV
  generalize (t : Int) = T at *
  generalize (n : Int) = N at *
  generalize (f : Int) = F at *
  go_enter Tryz.func8, Tryz.ntmps8
  go_wp2_with fail
  refine C1.out.mono ?_
  rintro e w1 ⟨rfl, rfl⟩
  go_wp2_with fail
  go_ret
  exact ⟨rfl, HB.out⟩

set_option maxRecDepth 100000 in
set_option maxHeartbeats 2000000 in
theorem rsameB_ne (t n f t' n' f' : Nat) (c c' : Int) (A A' : Option Addr) (nd cd nd' cd' : Nat) (w : World) (hne : t ≠ t') :
    Calls Tryz.prog 8 #[blkV t n f c A nd cd, blkV t' n' f' c' A' nd' cd'] w fun e w' => e = .returned (.bool false) ∧ Below w.heap.size w w' := by
  have HB := Lib.hid (((Below.refl w.heap.size w).alloc (Nat.le_refl _) (.cells #[.int .u64 (t : Int), .int .u64 (n : Int), .int .u64 (f : Int), .int .i64 c, .slice A nd cd] 25)).alloc (le_alloc _ _) (.cells #[.int .u64 (t' : Int), .int .u64 (n' : Int), .int .u64 (f' : Int), .int .i64 c', .slice A' nd' cd'] 25))
  have h1 : ((t : Int) == (t' : Int)) = false := by rw [beq_eq_false_iff_ne]; omega
  have h2 : ¬ (t : Int) = (t' : Int) := by omega
  unfold blkV
  clear hne
  go_enter Tryz.func8, Tryz.ntmps8
  go_wp2_with fail
  go_ret
  exact ⟨rfl, HB.out⟩
end Go.Proofs.YtanbjifdcplmnaaGreatDoor
