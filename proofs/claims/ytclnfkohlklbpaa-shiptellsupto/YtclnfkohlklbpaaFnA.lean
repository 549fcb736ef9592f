/- fence.outside, keeper.lookLock. -/
import Derived.Test.YtclnfkohlklbpaaLgC
set_option linter.unusedVariables false
set_option linter.unusedSimpArgs false
namespace Go.Proofs.Ytclnfkohlklbpaa
open Go.RowKit

/-- Outside of what may stand there: from 0 to the most. -/
def outB (n m : Int) : Bool := decide (n < 0) || decide (m < n)
theorem outB_false {n m : Int} : outB n m = false ↔ 0 ≤ n ∧ n ≤ m := by unfold outB; simp
/-- What is wrong with an epoch and a lock. -/
def lockE (ep h u : Int) : Int := if (outB ep 999 || outB h 2 || outB u 10009) = true then 3 else if (((h == 0) != (ep == 0)) || ((h == 0) && (u != 0))) = true then 4 else 0
end Go.Proofs.Ytclnfkohlklbpaa
