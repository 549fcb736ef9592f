/- Three cells of a variable that may be written. -/
import Derived.Test.YtollaiabcnmebaaDoorBegun
set_option linter.unusedVariables false
set_option linter.unusedSimpArgs false
namespace Go.Proofs.YtollaiabcnmebaaDoor
open Go.RowKit

/-- Three cells of a variable that may be written. -/
def HasF (w : World) (p : Nat) (x y z : Value) : Prop := Has3 w p x y z ∧ ∀ o, w.frozen? ⟨p, o, none⟩ = false
theorem HasF.below {W w' : World} {p : Nat} {x y z : Value} (h : HasF W p x y z) (hb : Below W.heap.size W w') : HasF w' p x y z :=
  ⟨h.1.below hb, fun o => by rw [(bcell hb).2 p o h.1.2.2.2]; exact h.2 o⟩
theorem HasF.new (W : World) (x y z : Value) (t : Nat) : HasF (W.alloc (.cells #[x, y, z] t)) W.heap.size x y z :=
  ⟨Has3.new W x y z t, fun o => World.frozen?_alloc_at _ _ _ _ rfl⟩
theorem HasF.alloc {W : World} {p : Nat} {x y z : Value} (h : HasF W p x y z) (o : Obj) : HasF (W.alloc o) p x y z := h.below (bal (Below.refl _ _) _)
theorem HasF.drew {W : World} {p : Nat} {x y z : Value} (h : HasF W p x y z) : HasF W.drew p x y z := h
theorem HasF.other {W : World} {p q : Nat} {x y z : Value} (h : HasF W p x y z) (hn : p ≠ q) (a b c : Value) :
    HasF (((W.setCell ⟨q, 0, none⟩ a).setCell ⟨q, 1, none⟩ b).setCell ⟨q, 2, none⟩ c) p x y z := by
  have ne : ∀ i j : Nat, (⟨q, i, none⟩ : Addr) ≠ ⟨p, j, none⟩ := by intro i j e; injection e with e; exact hn e.symm
  obtain ⟨⟨h0, h1, h2, h3⟩, h4⟩ := h
  refine ⟨⟨?_, ?_, ?_, by simpa using h3⟩, fun o => by rw [World.frozen?_setCell, World.frozen?_setCell, World.frozen?_setCell]; exact h4 o⟩
  · rw [World.cell?_setCell_other (h := ne 2 0), World.cell?_setCell_other (h := ne 1 0), World.cell?_setCell_other (h := ne 0 0)]; exact h0
  · rw [World.cell?_setCell_other (h := ne 2 1), World.cell?_setCell_other (h := ne 1 1), World.cell?_setCell_other (h := ne 0 1)]; exact h1
  · rw [World.cell?_setCell_other (h := ne 2 2), World.cell?_setCell_other (h := ne 1 2), World.cell?_setCell_other (h := ne 0 2)]; exact h2
theorem HasF.store {W : World} {p : Nat} {x y z : Value} (h : HasF W p x y z) (a b c : Value) :
    HasF (((W.setCell ⟨p, 0, none⟩ a).setCell ⟨p, 1, none⟩ b).setCell ⟨p, 2, none⟩ c) p a b c := by
  obtain ⟨⟨h0, h1, h2, h3⟩, h4⟩ := h
  have ne : ∀ i j : Nat, i ≠ j → (⟨p, i, none⟩ : Addr) ≠ ⟨p, j, none⟩ := by intro i j hij e; injection e with _ e; exact hij e
  refine ⟨⟨?_, ?_, ?_, by simpa using h3⟩, fun o => by rw [World.frozen?_setCell, World.frozen?_setCell, World.frozen?_setCell]; exact h4 o⟩
  · rw [World.cell?_setCell_other (h := ne 2 0 (by decide)), World.cell?_setCell_other (h := ne 1 0 (by decide))]
    exact World.cell?_setCell_same _ _ _ h0
  · rw [World.cell?_setCell_other (h := ne 2 1 (by decide))]
    exact World.cell?_setCell_same _ _ _ (u := y) (by rw [World.cell?_setCell_other (h := ne 0 1 (by decide))]; exact h1)
  · exact World.cell?_setCell_same _ _ _ (u := z) (by rw [World.cell?_setCell_other (h := ne 1 2 (by decide)), World.cell?_setCell_other (h := ne 0 2 (by decide))]; exact h2)
end Go.Proofs.YtollaiabcnmebaaDoor
