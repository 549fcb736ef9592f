/- The small addresses of the laws. -/
import Derived.Test.YtlgdkdplkdkkdaaH3
import Derived.WalkKit
set_option linter.unusedVariables false
set_option linter.unusedSimpArgs false
namespace Go.Proofs.Ytlgdkdplkdkkdaa
open Go.RowKit

theorem v4_any (n : Int) (w : World) :
    Calls Try.prog 27 #[.int .u64 n] w fun e w' => e = .returned (.agg #[.bool false, .int .u64 0, .int .u64 n]) ∧ ∃ c, w' = w.alloc (.cells c 25) := by
  go_enter Try.func27, Try.ntmps27
  go_wp2
  simp [bodyPost, results, Try.results27, go_sem]
  exact ⟨_, rfl⟩

end Go.Proofs.Ytlgdkdplkdkkdaa
