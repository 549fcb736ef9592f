/- Three cells of a variable. -/
import Derived.Test.YtghbonlignmdoaaGreatDoorLess
set_option linter.unusedVariables false
set_option linter.unusedSimpArgs false
namespace Go.Proofs.YtghbonlignmdoaaGreatDoor
open Go.RowKit

/-- Three cells of a variable. -/
def Has3 (w : World) (p : Nat) (x y z : Value) : Prop := w.cell? ⟨p, 0, none⟩ = some x ∧ w.cell? ⟨p, 1, none⟩ = some y ∧ w.cell? ⟨p, 2, none⟩ = some z ∧ p < w.heap.size

theorem Has3.below {W w' : World} {p : Nat} {x y z : Value} (h : Has3 W p x y z) (hb : Below W.heap.size W w') : Has3 w' p x y z := by
  obtain ⟨a, b, c, d⟩ := h
  obtain ⟨h1, _⟩ := bcell hb
  exact ⟨by rw [h1 _ _ d]; exact a, by rw [h1 _ _ d]; exact b, by rw [h1 _ _ d]; exact c, Nat.lt_of_lt_of_le d hb.size⟩

theorem Has3.new (W : World) (x y z : Value) (t : Nat) : Has3 (W.alloc (.cells #[x, y, z] t)) W.heap.size x y z := by
  refine ⟨?_, ?_, ?_, ?_⟩
  · simp [go_sem]
  · simp [go_sem]
  · simp [go_sem]
  · simp

theorem Has3.alloc {W : World} {p : Nat} {x y z : Value} (h : Has3 W p x y z) (o : Obj) : Has3 (W.alloc o) p x y z := h.below (bal (Below.refl _ _) _)

theorem Has3.drew {W : World} {p : Nat} {x y z : Value} (h : Has3 W p x y z) : Has3 W.drew p x y z := h

end Go.Proofs.YtghbonlignmdoaaGreatDoor
