/- The small prefixes of the laws. -/
import Derived.Test.YtghbonlignmdoaaGreatDoorV4
set_option linter.unusedVariables false
set_option linter.unusedSimpArgs false
namespace Go.Proofs.YtghbonlignmdoaaGreatDoor
open Go.RowKit

theorem net_any (n b : Int) (w : World) :
    Calls Tryz.prog 16 #[.int .u64 n, .int .i64 b] w fun e w' => e = .returned (.agg #[.bool false, .int .u64 0, .int .u64 n, .int .i64 b]) ∧ Below w.heap.size w w' := by
  have hv : Hid (∀ w : World, Calls Tryz.prog 14 #[.int .u64 n] w fun e w' => e = .returned (.agg #[.bool false, .int .u64 0, .int .u64 n]) ∧ ∃ c, w' = w.alloc (.cells c 25)) := fun w => v4_any n w
  go_enter Tryz.func16, Tryz.ntmps16
  go_wp2_with fail
  refine (hv.out _).mono ?_
  rintro e w1 ⟨rfl, c, rfl⟩
  go_wp2
  refine bodyPost_ret (v := .agg #[.bool false, .int .u64 0, .int .u64 n, .int .i64 b]) ?_ rfl ⟨rfl, ?_⟩
  · simp [results, Tryz.results16, go_sem]
  · repeat (first | exact Below.refl _ _ | apply bal | apply Below.drew)

end Go.Proofs.YtghbonlignmdoaaGreatDoor
