/- The code's log: sectors read as bytes. -/
import Derived.Test.YtahgaogmcffglaaDoorJWcC
import Derived.Test.YtahgaogmcffglaaDoorJWlG
namespace Go.Proofs.YtahgaogmcffglaaDoor
open Go.RowKit

/-- How long a slice is. -/
def slN : Value → Nat
  | .slice _ n _ => n
  | _ => 0
/-- The method value that reads sectors. -/
def rdV (g : Nat) : Value := .func (.func 14) #[.pointer (some ⟨g, 0, none⟩)] #[]
theorem CDk.allW {w : World} {F : Nat → Prop} {B g : Nat} {D : Cd} (h : CDk w F B g D) : ∀ s ∈ layW D.secs D.waits, s.length = 64 := layW_all _ _ h.wide h.wid
theorem read_ok {D : Cd} {k : Nat} {s : List UInt8} {e : Ending} {w w' : World} (hp : D.power = true) (hi : ¬ ((k : Int) < 0 ∨ (D.secs.length : Int) ≤ (k : Int))) (hs : (layW D.secs D.waits)[k]? = some s) (hl : s.length = 64)
    (h : (D.power = false ∧ e = .returned (.tuple #[.slice none 0 0, .int .i64 131])) ∨ (D.power = true ∧ ((k : Int) < 0 ∨ (D.secs.length : Int) ≤ (k : Int)) ∧ e = .returned (.tuple #[.slice none 0 0, .int .i64 130])) ∨
      (D.power = true ∧ 0 ≤ (k : Int) ∧ (k : Int) < (D.secs.length : Int) ∧ ∃ v l, (layW D.secs D.waits)[(k : Int).toNat]? = some l ∧ e = .returned (.tuple #[v, .int .i64 0]) ∧ Ob w' w.heap.size 5 v l)) :
    ∃ A3 c3, e = .returned (.tuple #[.slice A3 64 c3, .int .i64 0]) ∧ 64 ≤ c3 ∧ Rd w' w'.heap.size A3 64 s := by
  rcases h with ⟨h1, -⟩ | ⟨-, h2, -⟩ | ⟨-, -, -, v, l, h3, he, ho⟩
  · rw [hp] at h1; cases h1
  · exact absurd h2 hi
  · rw [Int.toNat_natCast, hs] at h3
    obtain rfl := Option.some.inj h3
    obtain ⟨A3, c3, rfl, hc, -, hr⟩ := ho.rd
    rw [hl] at hc hr he
    exact ⟨A3, c3, he, hc, hr⟩
set_option maxRecDepth 100000 in
set_option maxHeartbeats 8000000 in
theorem wreadBytes_any (w : World) {F : Nat → Prop} {B g : Nat} {D : Cd} (at_ n : Nat) (h : CDk w F B g D) (hws : D.waits.length ≤ 1000000) (hp : D.power = true) (hin : at_ * 64 + n ≤ D.secs.length * 64) :
    Calls Tryd.prog 54 #[rdV g, .int .i64 (at_ : Int), .int .i64 (n : Int)] w fun e w' => ∃ v, e = .returned (.tuple #[v, .int .i64 0]) ∧ Ob w' w.heap.size 5 v (rdZ (layW D.secs D.waits) at_ n) ∧ Below w.heap.size w w' := by
  have H := Lib.hid h
  have HWS := Lib.hid hws
  have HP := Lib.hid hp
  have HIN := Lib.hid hin
  have HFW := Lib.hid h.few
  have HAW := Lib.hid h.allW
  have hn1 : n ≤ 4194304 := by have := h.few; omega
  have hat : at_ ≤ 65536 := by have := h.few; omega
  have HLN : Hid ((layW D.secs D.waits).length = D.secs.length) := layW_len _ _
  have HN := Lib.hid hn1
  have HAT := Lib.hid hat
  clear h hws hp hin hat
  unfold rdV
  go_enter Tryd.func54, Tryd.ntmps54
  go_upto_region 2 with (first
    | (refine wpList_makeB14 rfl _ _ 33 rfl 5 Tryd.underlying33 info_u8 n (n : Int) rfl rfl rfl (by have := HN.out; omega) ?_; intro w1 ho1 hb1; have O1 := Lib.hid ho1; have B1 := Lib.hid hb1; clear ho1 hb1)
    | fail)
  go_loopw [1, 8, 9, 10] (fun v1 v8 v9 v10 wr => ∃ (i k K : Nat) (A : Option Addr) (c : Nat), Hid (k = at_ + i) ∧ v1 = .int .i64 (k : Int) ∧ v8 = .slice A K c ∧ Hid (K = min (64 * i) n) ∧ Hid (64 * i < n + 64) ∧ Hid (Ob wr w.heap.size 5 (.slice A K c) (rdZ (layW D.secs D.waits) at_ K)) ∧ Hid (Below w.heap.size w wr)) (fun _ v8 _ _ _ => n - slN v8)
  case atStart => exact ⟨0, at_, 0, _, n, rfl, rfl, rfl, by show _ = _; omega, by show _ < _; omega, by rw [rdZ_zero]; exact O1.out, B1.out⟩
  case round =>
    obtain ⟨i, k, K, A, c, HKAT, rfl, rfl, HK, HI, HO, HW⟩ := hrel
    by_cases hlt : K < n
    · have hKi : K = 64 * i := by have := HK.out; omega
      have hlt2 : (K : Int) < (n : Int) := by omega
      have HKI := Lib.hid hKi
      have hsi : k < (layW D.secs D.waits).length := by rw [HLN.out]; have := HIN.out; have := HKAT.out; omega
      obtain ⟨s, hs⟩ : ∃ s, (layW D.secs D.waits)[k]? = some s := ⟨_, List.getElem?_eq_getElem hsi⟩
      have HS := Lib.hid hs
      have HSI : Hid (¬ ((k : Int) < 0 ∨ (D.secs.length : Int) ≤ (k : Int))) := by show ¬ _; rw [HLN.out] at hsi; omega
      have HSL : Hid (s.length = 64) := HAW.out s (List.mem_of_getElem? hs)
      have CR := Lib.hid (dread_any wr (k : Int) (H.out.below HW.out) HWS.out)
      obtain ⟨m, hm⟩ : ∃ m, m = min 64 (n - K) := ⟨_, rfl⟩
      have HM := Lib.hid hm
      have w1 : IntKind.i64.wrap ((n : Int) - (K : Int)) = (n : Int) - (K : Int) := by rw [IntKind.wrap_i64]; have := HN.out; omega
      have hmx : min (64 : Int) ((n : Int) - (K : Int)) = (m : Int) := by omega
      have w2 : IntKind.i64.wrap ((k : Int) + 1) = (k : Int) + 1 := by rw [IntKind.wrap_i64]; have := HFW.out; rw [HLN.out] at hsi; omega
      clear hKi hsi hs hm
      unfold CReadR at CR
      go_wp2_with fail
      refine CR.out.mono ?_
      rintro e w3 ⟨hb3, hh⟩
      obtain ⟨A3, c3, rfl, hc3, hr3⟩ := read_ok HP.out HSI.out HS.out HSL.out hh
      have B3 := Lib.hid (HW.out.trans (hb3.mono HW.out.size))
      have O3 := Lib.hid (HO.out.below hb3)
      obtain ⟨A4, c4, cut4, hc4, hc5, hr4⟩ := cut_h (P := Tryd.prog) 33 5 Tryd.underlying33 size_u8 c3 hr3 (m : Int) m rfl (by have := HM.out; omega) hc3
      have R4 := Lib.hid hr4
      clear hh hb3 hr3 hr4 hc4 hc5
      go_wp2_with (first
        | (at_builtin; refine wpList_appB rfl (.tmp 26) (.tmp 35) 33 rfl w.heap.size 5 Tryd.underlying33 info_u8 _ (rdZ (layW D.secs D.waits) at_ K) rfl (O3.out) _ A4 m c4 (s.take m) rfl (R4.out) (by rw [rdZ_len HAW.out _ _ (by rw [HLN.out]; have := HIN.out; omega)]; have := HM.out; have := HN.out; omega) (B3.out.size) ?_; intro v5 w5 ho5 hb5; have O5 := Lib.hid ho5; have B5 := Lib.hid (B3.out.trans hb5); clear ho5 hb5)
        | fail)
      have HE : Hid (rdZ (layW D.secs D.waits) at_ K ++ s.take m = rdZ (layW D.secs D.waits) at_ (K + m)) := by
        show _ = _
        rw [HKI.out]
        exact (rdZ_more HAW.out at_ i m (by have := HM.out; omega) (by rw [← HKAT.out]; exact HS.out)).symm
      rw [HE.out] at O5
      obtain ⟨A6, c6, rfl, -, -, -⟩ := O5.out.rd
      have HL6 : Hid ((rdZ (layW D.secs D.waits) at_ (K + m)).length = K + m) := rdZ_len HAW.out _ _ (by rw [HLN.out]; have := HIN.out; have := HM.out; omega)
      rw [HL6.out] at O5 ⊢
      go_wp2_with fail
      go_roundw
      case rel => exact ⟨i + 1, k + 1, K + m, A6, c6, by show _ = _; have := HKAT.out; omega, by simp, rfl, by show _ = _; have := HKI.out; have := HM.out; omega, by show _ < _; have := HKI.out; omega, O5.out, B5.out⟩
      case measure => show n - (K + m) < n - K; have := HM.out; omega
    · have hlt2 : ¬ (K : Int) < (n : Int) := by omega
      have HKN : Hid (K = n) := by show _ = _; have := HK.out; omega
      go_wp2_with fail
      exact bodyPost_ret (results_tmp2 Tryd.results54 _ _ _) rfl ⟨_, rfl, HKN.out ▸ HO.out, HW.out⟩
end Go.Proofs.YtahgaogmcffglaaDoor
