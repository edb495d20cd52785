/- The plain functions of layer 8: a key's 64 bytes, tags, chains. No program's number stands here. -/
import Derived.Test.YtllodapnbdbpeaaShaM
namespace Go.Proofs.Ytllodapnbdbpeaa
open Go.RowKit

/-- A key of at most 64 bytes, or its digest. -/
def keyB (k : List UInt8) : List UInt8 := if 64 < k.length then shaL k else k
/-- A key's 64 bytes. -/
def keyL (k : List UInt8) : List UInt8 := keyB k ++ List.replicate (64 - (keyB k).length) 0
def xorL (b : List UInt8) (x : UInt8) : List UInt8 := b.map (· ^^^ x)
/-- A tag. -/
def tagL (k t : List UInt8) : List UInt8 := shaL (xorL (keyL k) 0x5c ++ shaL (xorL (keyL k) 0x36 ++ t))

theorem shaL_size (l : List UInt8) : (shaL l).length = 32 := by
  have e : ∀ L : List (BitVec 32), (outL L).length = 4 * L.length := fun L => by
    induction L with
    | nil => rfl
    | cons y t ih => rw [show outL (y :: t) = be y.toNat 4 ++ outL t from rfl, List.length_append, be_length, ih, List.length_cons]; omega
  exact e _
theorem keyB_le (k : List UInt8) : (keyB k).length ≤ 64 := by
  unfold keyB
  split
  · rw [shaL_size]; decide
  · omega
theorem keyL_length (k : List UInt8) : (keyL k).length = 64 := by
  have := keyB_le k
  unfold keyL
  rw [List.length_append, List.length_replicate]; omega
theorem xorL_length (b : List UInt8) (x : UInt8) : (xorL b x).length = b.length := by simp [xorL]
theorem tagL_length (k t : List UInt8) : (tagL k t).length = 32 := shaL_size _
/-- Noughts behind a short key do not matter. -/
theorem keyL_noughts (k : List UInt8) (m : Nat) (h : k.length + m ≤ 64) : keyL (k ++ List.replicate m 0) = keyL k := by
  have e1 : keyB (k ++ List.replicate m 0) = k ++ List.replicate m 0 := by
    unfold keyB
    rw [if_neg (by rw [List.length_append, List.length_replicate]; omega)]
  have e2 : keyB k = k := by
    unfold keyB
    rw [if_neg (by omega)]
  unfold keyL
  rw [e1, e2, List.append_assoc, List.length_append, List.length_replicate, List.replicate_append_replicate]
  congr 2
  omega
theorem tagL_noughts (k t : List UInt8) (m : Nat) (h : k.length + m ≤ 64) : tagL (k ++ List.replicate m 0) t = tagL k t := by
  unfold tagL
  rw [keyL_noughts k m h]
/-- A short key, byte by byte. -/
theorem keyL_short (k : List UInt8) (h : k.length ≤ 64) (i : Nat) : (keyL k).getD i 0 = k.getD i 0 := by
  have e2 : keyB k = k := by
    unfold keyB
    rw [if_neg (by omega)]
  unfold keyL
  rw [e2]
  rcases Nat.lt_or_ge i k.length with h1 | h1
  · simp [List.getD, List.getElem?_append_left h1]
  · simp only [List.getD, List.getElem?_append_right h1, List.getElem?_eq_none h1]
    rcases Nat.lt_or_ge (i - k.length) (64 - k.length) with h2 | h2
    · rw [List.getElem?_replicate, if_pos h2]; rfl
    · rw [List.getElem?_eq_none (by simpa using h2)]

set_option maxRecDepth 100000 in
theorem tagL_fox : tagL [107, 101, 121] [84, 104, 101, 32, 113, 117, 105, 99, 107, 32, 98, 114, 111, 119, 110, 32, 102, 111, 120, 32, 106, 117, 109, 112, 115, 32, 111, 118, 101, 114, 32, 116, 104, 101, 32, 108, 97, 122, 121, 32, 100, 111, 103] =
    [0xf7, 0xbc, 0x83, 0xf4, 0x30, 0x53, 0x84, 0x24, 0xb1, 0x32, 0x98, 0xe6, 0xaa, 0x6f, 0xb1, 0x43, 0xef, 0x4d, 0x59, 0xa1, 0x49, 0x46, 0x17, 0x59, 0x97, 0x47, 0x9d, 0xbc, 0x2d, 0x1a, 0x3c, 0xd8] := by
  decide +kernel
end Go.Proofs.Ytllodapnbdbpeaa
