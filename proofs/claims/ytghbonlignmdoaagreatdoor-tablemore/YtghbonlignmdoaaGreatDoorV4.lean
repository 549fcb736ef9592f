/- The small addresses of the laws. -/
import Derived.Test.YtghbonlignmdoaaGreatDoorH3
import Derived.WalkKit
set_option linter.unusedVariables false
set_option linter.unusedSimpArgs false
namespace Go.Proofs.YtghbonlignmdoaaGreatDoor
open Go.RowKit

theorem v4_any (n : Int) (w : World) :
    Calls Tryz.prog 14 #[.int .u64 n] w fun e w' => e = .returned (.agg #[.bool false, .int .u64 0, .int .u64 n]) ∧ ∃ c, w' = w.alloc (.cells c 25) := by
  go_enter Tryz.func14, Tryz.ntmps14
  go_wp2
  simp [bodyPost, results, Tryz.results14, go_sem]
  exact ⟨_, rfl⟩

end Go.Proofs.YtghbonlignmdoaaGreatDoor
