/- Two endpoints compared whole. -/
import Derived.Test.YtoggkjoadiombaaGreatDoorJEidF
namespace Go.Proofs.YtoggkjoadiombaaGreatDoor
open Go.RowKit
set_option maxRecDepth 100000 in
set_option maxHeartbeats 2000000 in
theorem eql_eid (sc sc' : Int) (s s' : ByteArray) (n n' v v' : Int) (be : Bool) (hbe : be = true ↔ (sc = sc' ∧ s = s' ∧ n = n' ∧ v = v')) (w : World) :
    (binOp .eql 25 (.agg #[.int .i64 sc, .string s, .int .u64 n, .int .u64 v]) (.agg #[.int .i64 sc', .string s', .int .u64 n', .int .u64 v'])).run Tryz.prog w = .ok (.bool be) w := by
  have hss : s.toList = s'.toList ↔ s = s' := by
    rw [Lib.toList_data, Lib.toList_data]
    constructor
    · intro h; rw [← strL_data s, h, strL_data]
    · rintro rfl; rfl
  go_simp
  cases be with
  | true =>
    obtain ⟨h1, h2, h3, h4⟩ := hbe.1 rfl
    rw [if_pos h1, if_pos h2, if_pos h3, if_pos h4]
  | false =>
    split
    · split
      · split
        · split
          · rename_i h1 h2 h3 h4
            have := hbe.2 ⟨h1, h2, h3, h4⟩
            cases this
          · rfl
        · rfl
      · rfl
    · rfl
end Go.Proofs.YtoggkjoadiombaaGreatDoor
