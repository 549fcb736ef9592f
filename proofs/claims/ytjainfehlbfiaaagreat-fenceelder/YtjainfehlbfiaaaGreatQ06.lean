/- Blocks. -/
import Derived.Test.YtjainfehlbfiaaaGreatQ01
set_option linter.unusedVariables false
set_option linter.unusedSimpArgs false
namespace Go.Proofs.YtjainfehlbfiaaaGreat
open Go.RowKit

/-- A block of cells, all of it, none of it frozen. -/
def Blk (w : World) (b t : Nat) (l : List Value) : Prop := w.heap[b]? = some (.cells l.toArray t (0, 0))
theorem Blk.lt {w : World} {b t : Nat} {l : List Value} (h : Blk w b t l) : b < w.heap.size := (Array.getElem?_eq_some_iff.1 h).1
theorem Blk.cell {w : World} {b t : Nat} {l : List Value} (h : Blk w b t l) (j : Nat) (v : Value) (hj : l[j]? = some v) : w.cell? ⟨b, j, none⟩ = some v := by
  unfold Blk at h
  simp only [World.cell?, h]
  simpa using hj
theorem Blk.free {w : World} {b t : Nat} {l : List Value} (h : Blk w b t l) (j : Nat) : w.frozen? ⟨b, j, none⟩ = false := by
  unfold Blk at h
  simp [World.frozen?, h]
theorem Blk.below {w w' : World} {b t : Nat} {l : List Value} (h : Blk w b t l) (hb : Below w.heap.size w w') : Blk w' b t l := (hb.block b h.lt).trans h
theorem Blk.upto {w w' : World} {B b t : Nat} {l : List Value} (h : Blk w b t l) (hlt : b < B) (hb : Below B w w') : Blk w' b t l := (hb.block b hlt).trans h
theorem Blk.new (W : World) (l : List Value) (t : Nat) : Blk (W.alloc (.cells l.toArray t)) W.heap.size t l := heap_alloc_new W _
theorem Blk.set {w : World} {b t : Nat} {l : List Value} (h : Blk w b t l) (j : Nat) (u : Value) : Blk (w.setCell ⟨b, j, none⟩ u) b t (l.set j u) := by
  unfold Blk at h ⊢
  have h1 := heap_setCell_same w b j _ _ u h
  rw [h1]
  simp
theorem Blk.other {w : World} {b t c j : Nat} {l : List Value} (h : Blk w b t l) (hne : b ≠ c) (u : Value) : Blk (w.setCell ⟨c, j, none⟩ u) b t l := (heap_setCell_other w ⟨c, j, none⟩ b u hne).trans h
theorem Blk.two {w : World} {b t : Nat} {x0 x1 : Value} (h : Blk w b t [x0, x1]) : (w.cell? ⟨b, 0, none⟩ = some x0 ∧ w.cell? ⟨b, 1, none⟩ = some x1) ∧ (w.frozen? ⟨b, 0, none⟩ = false ∧ w.frozen? ⟨b, 1, none⟩ = false) := ⟨⟨h.cell 0 _ rfl, h.cell 1 _ rfl⟩, h.free 0, h.free 1⟩
theorem Blk.three {w : World} {b t : Nat} {x0 x1 x2 : Value} (h : Blk w b t [x0, x1, x2]) : (w.cell? ⟨b, 0, none⟩ = some x0 ∧ w.cell? ⟨b, 1, none⟩ = some x1 ∧ w.cell? ⟨b, 2, none⟩ = some x2) ∧ (w.frozen? ⟨b, 0, none⟩ = false ∧ w.frozen? ⟨b, 1, none⟩ = false ∧ w.frozen? ⟨b, 2, none⟩ = false) := ⟨⟨h.cell 0 _ rfl, h.cell 1 _ rfl, h.cell 2 _ rfl⟩, h.free 0, h.free 1, h.free 2⟩
theorem Blk.four {w : World} {b t : Nat} {x0 x1 x2 x3 : Value} (h : Blk w b t [x0, x1, x2, x3]) : (w.cell? ⟨b, 0, none⟩ = some x0 ∧ w.cell? ⟨b, 1, none⟩ = some x1 ∧ w.cell? ⟨b, 2, none⟩ = some x2 ∧ w.cell? ⟨b, 3, none⟩ = some x3) ∧ (w.frozen? ⟨b, 0, none⟩ = false ∧ w.frozen? ⟨b, 1, none⟩ = false ∧ w.frozen? ⟨b, 2, none⟩ = false ∧ w.frozen? ⟨b, 3, none⟩ = false) := ⟨⟨h.cell 0 _ rfl, h.cell 1 _ rfl, h.cell 2 _ rfl, h.cell 3 _ rfl⟩, h.free 0, h.free 1, h.free 2, h.free 3⟩
theorem Blk.put4 {w : World} {b t : Nat} {x0 x1 x2 x3 : Value} (h : Blk w b t [x0, x1, x2, x3]) (y0 y1 y2 y3 : Value) : Blk ((((w.setCell ⟨b, 0, none⟩ y0).setCell ⟨b, 1, none⟩ y1).setCell ⟨b, 2, none⟩ y2).setCell ⟨b, 3, none⟩ y3) b t [y0, y1, y2, y3] := (((h.set 0 y0).set 1 y1).set 2 y2).set 3 y3
theorem own_st {w : World} {B t k n : Nat} {v : Value} {R : List Value} (h : w.ownsRow B t k v n R) {b j : Nat} (hb : b < B) (u : Value) : (w.setCell ⟨b, j, none⟩ u).ownsRow B t k v n R :=
  h.kept (row := some b) ⟨rfl, rfl, rfl, by simp, fun k hk hn => heap_setCell_other w ⟨b, j, none⟩ k u (fun e => hn (by rw [e]))⟩ (.inr fun e => by have := (h.lt b e).1; omega)
theorem own_slice {w : World} {B t k n : Nat} {v : Value} {R : List Value} (h : w.ownsRow B t k v n R) : ∃ a c, v = .slice a n c := by
  rcases h.2 with ⟨rfl, h2⟩ | ⟨g, c, cur, rfl, _⟩
  · exact ⟨none, 0, by rw [h2]⟩
  · exact ⟨_, c, rfl⟩
theorem own_open {α : Type} {E : Enc α} {w : World} {B t : Nat} {v : Value} {l : List α} (h : w.ownsRow B t E.k v l.length (rowOf E l)) : ∃ a c, v = .slice a l.length c ∧ l.length ≤ c ∧ Lies E w a l ∧ ∀ g o, a = some ⟨g, o, none⟩ → B ≤ g := by
  rcases own_form h with ⟨rfl, rfl⟩ | ⟨g, c, rfl, ho⟩
  · exact ⟨none, 0, rfl, Nat.le_refl _, Lies.nil _ _ _, fun g o e => by simp at e⟩
  · exact ⟨_, c, rfl, ho.le, ho.lies, fun g' o' e => by simp at e; obtain ⟨rfl, _⟩ := e; exact ho.base⟩
end Go.Proofs.YtjainfehlbfiaaaGreat
