/- What the card leans on: V4, NetV. -/
import Derived.Test.YtjainfehlbfiaaaGreatQ01
import Derived.WalkKit
set_option linter.unusedVariables false
set_option linter.unusedSimpArgs false
namespace Go.Proofs.YtjainfehlbfiaaaGreat
open Go.RowKit

theorem v4_any (n : Int) (w : World) :
    Calls Tryz.prog 18 #[.int .u64 n] w fun e w' => e = .returned (.agg #[.bool false, .int .u64 0, .int .u64 n]) ∧ ∃ c, w' = w.alloc (.cells c 29) := by
  go_enter Tryz.func18, Tryz.ntmps18
  go_wp2
  simp [bodyPost, results, Tryz.results18, go_sem]
  exact ⟨_, rfl⟩

end Go.Proofs.YtjainfehlbfiaaaGreat

namespace Go.Proofs.YtjainfehlbfiaaaGreat
open Go.RowKit

theorem net_any (n b : Int) (w : World) :
    Calls Tryz.prog 26 #[.int .u64 n, .int .i64 b] w fun e w' => e = .returned (.agg #[.bool false, .int .u64 0, .int .u64 n, .int .i64 b]) ∧ Below w.heap.size w w' := by
  have hv : Hid (∀ w : World, Calls Tryz.prog 18 #[.int .u64 n] w fun e w' => e = .returned (.agg #[.bool false, .int .u64 0, .int .u64 n]) ∧ ∃ c, w' = w.alloc (.cells c 29)) := fun w => v4_any n w
  go_enter Tryz.func26, Tryz.ntmps26
  go_wp2_with fail
  refine (hv.out _).mono ?_
  rintro e w1 ⟨rfl, c, rfl⟩
  go_wp2
  refine bodyPost_ret (v := .agg #[.bool false, .int .u64 0, .int .u64 n, .int .i64 b]) ?_ rfl ⟨rfl, ?_⟩
  · simp [results, Tryz.results26, go_sem]
  · repeat (first | exact Below.refl _ _ | apply bal | apply Below.drew)

end Go.Proofs.YtjainfehlbfiaaaGreat
