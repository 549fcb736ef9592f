/- The small addresses of the laws. -/
import Derived.Test.YtclnfkohlklbpaaH3
import Derived.WalkKit
set_option linter.unusedVariables false
set_option linter.unusedSimpArgs false
namespace Go.Proofs.Ytclnfkohlklbpaa
open Go.RowKit

theorem v4_any (n : Int) (w : World) :
    Calls Try.prog 31 #[.int .u64 n] w fun e w' => e = .returned (.agg #[.bool false, .int .u64 0, .int .u64 n]) ∧ ∃ c, w' = w.alloc (.cells c 38) := by
  go_enter Try.func31, Try.ntmps31
  go_wp2
  simp [bodyPost, results, Try.results31, go_sem]
  exact ⟨_, rfl⟩

end Go.Proofs.Ytclnfkohlklbpaa
