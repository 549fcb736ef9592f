/- slices.IndexFunc, slices.ContainsFunc at entries. -/
import Derived.Test.YtclnfkohlklbpaaLgB
import Derived.Test.YtclnfkohlklbpaaLsC
set_option linter.unusedVariables false
set_option linter.unusedSimpArgs false
namespace Go.Proofs.Ytclnfkohlklbpaa
open Go.RowKit

theorem any_idx {α : Type} (f : α → Bool) (l : List α) : decide ((0 : Int) ≤ idxI (l.findIdx? f)) = l.any f := by
  cases h : l.findIdx? f with
  | none =>
    have := List.findIdx?_eq_none_iff.1 h
    rw [show l.any f = false from List.any_eq_false.2 fun x hx => by rw [this x hx]; simp]
    rfl
  | some i =>
    obtain ⟨hi, hp, _⟩ := List.findIdx?_eq_some_iff_getElem.1 h
    rw [show l.any f = true from List.any_eq_true.2 ⟨_, List.getElem_mem hi, hp⟩]
    simp [idxI]
end Go.Proofs.Ytclnfkohlklbpaa
