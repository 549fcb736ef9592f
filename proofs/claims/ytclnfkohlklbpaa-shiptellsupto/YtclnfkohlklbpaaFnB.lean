/- keeper.lookLog, fence.Check: is a disk right? -/
import Derived.Test.YtclnfkohlklbpaaFnA
set_option linter.unusedVariables false
set_option linter.unusedSimpArgs false
namespace Go.Proofs.Ytclnfkohlklbpaa
open Go.RowKit

/-- What is wrong with a disk's log. -/
def dlogE (ep : Int) (l : List En) : Int := if logE l = 0 then (if (l.any fun n => decide (ep < n.ep)) = true then 4 else 0) else logE l
theorem logE_len {l : List En} (h : logE l = 0) : l.length ≤ 30 := by
  unfold logE at h
  by_cases hl : 30 < l.length
  · rw [if_pos hl] at h; omega
  · omega
/-- What is wrong with a disk. -/
def diskE (ep h u : Int) (l : List En) : Int := if lockE ep h u = 0 then dlogE ep l else lockE ep h u
end Go.Proofs.Ytclnfkohlklbpaa
