/- slices.IndexFunc, slices.DeleteFunc at leases. -/
import Derived.Test.YtclnfkohlklbpaaLsB
import Derived.Lib.SliceRun
set_option linter.unusedVariables false
set_option linter.unusedSimpArgs false
namespace Go.Proofs.Ytclnfkohlklbpaa
open Go.RowKit

def idxI : Option Nat → Int
  | some i => i
  | none => -1
theorem find_hit {α : Type} {p : α → Bool} {l : List α} {k : Nat} (hk : k < l.length) (h : p l[k] = true) (ha : ∀ j (hj : j < k), p (l[j]'(by omega)) = false) : l.findIdx? p = some k :=
  List.findIdx?_eq_some_iff_getElem.2 ⟨hk, h, fun j hj => by rw [ha j hj]; simp⟩
theorem find_miss {α : Type} {p : α → Bool} {l : List α} (ha : ∀ j (hj : j < l.length), p l[j] = false) : l.findIdx? p = none :=
  List.findIdx?_eq_none_iff.2 fun x hx => by
    obtain ⟨j, hj, rfl⟩ := List.mem_iff_getElem.1 hx
    exact ha j hj

theorem splice5 (L : List Value) (o : Nat) (x0 x1 x2 x3 x4 : Value) (h : o + 5 ≤ L.length) : ((((L.set o x0).set (o + 1) x1).set (o + 2) x2).set (o + 3) x3).set (o + 4) x4 = splice L o [x0, x1, x2, x3, x4] := by
  apply List.ext_getElem?
  intro i
  rw [splice]
  simp only [List.getElem?_set, List.length_set]
  by_cases h1 : i < o
  · rw [List.getElem?_append_left (by simp; omega), List.getElem?_take_of_lt h1]
    rw [if_neg (by omega), if_neg (by omega), if_neg (by omega), if_neg (by omega), if_neg (by omega)]
  · rw [List.getElem?_append_right (by simp; omega)]
    rw [show (L.take o).length = o by simp; omega]
    by_cases h2 : i < o + 5
    · have : i = o ∨ i = o + 1 ∨ i = o + 2 ∨ i = o + 3 ∨ i = o + 4 := by omega
      rcases this with rfl | rfl | rfl | rfl | rfl
      · simp; omega
      · simp; omega
      · simp; omega
      · simp; omega
      · simp; omega
    · rw [if_neg (by omega), if_neg (by omega), if_neg (by omega), if_neg (by omega), if_neg (by omega)]
      rw [List.getElem?_append_right (by simp; omega), List.getElem?_drop]
      congr 1
      simp; omega
theorem set5_row {w : World} {g o t : Nat} {cs : List Value} (hg : w.heap[g]? = some (.cells cs.toArray t (0, 0))) (x0 x1 x2 x3 x4 : Value) (h : o + 5 ≤ cs.length) :
    (((((w.setCell ⟨g, o, none⟩ x0).setCell ⟨g, o + 1, none⟩ x1).setCell ⟨g, o + 2, none⟩ x2).setCell ⟨g, o + 3, none⟩ x3).setCell ⟨g, o + 4, none⟩ x4) = w.setRow g (splice cs o [x0, x1, x2, x3, x4]).toArray := by
  rw [setCell_eq_setRow w g o _ t (0, 0) x0 hg]
  have h1 := setRow_heap w g _ (cs.toArray.setIfInBounds o x0) t _ hg
  rw [setCell_eq_setRow _ g (o + 1) _ t (0, 0) x1 h1, setRow_setRow]
  have h2 := setRow_heap w g _ ((cs.toArray.setIfInBounds o x0).setIfInBounds (o + 1) x1) t _ hg
  rw [setCell_eq_setRow _ g (o + 2) _ t (0, 0) x2 h2, setRow_setRow]
  have h3 := setRow_heap w g _ (((cs.toArray.setIfInBounds o x0).setIfInBounds (o + 1) x1).setIfInBounds (o + 2) x2) t _ hg
  rw [setCell_eq_setRow _ g (o + 3) _ t (0, 0) x3 h3, setRow_setRow]
  have h4 := setRow_heap w g _ ((((cs.toArray.setIfInBounds o x0).setIfInBounds (o + 1) x1).setIfInBounds (o + 2) x2).setIfInBounds (o + 3) x3) t _ hg
  rw [setCell_eq_setRow _ g (o + 4) _ t (0, 0) x4 h4, setRow_setRow]
  have e : ((((cs.toArray.setIfInBounds o x0).setIfInBounds (o + 1) x1).setIfInBounds (o + 2) x2).setIfInBounds (o + 3) x3).setIfInBounds (o + 4) x4 = (splice cs o [x0, x1, x2, x3, x4]).toArray := by
    rw [← splice5 cs o x0 x1 x2 x3 x4 h]
    simp only [List.setIfInBounds_toArray]
  exact congrArg (w.setRow g) e
theorem OwnAt.set5 {w : World} {B t g c : Nat} {l : List Ls} (h : OwnAt lsE w B t g c l) (j : Nat) (x : Ls) (hj : j < l.length) :
    OwnAt lsE (((((w.setCell ⟨g, j * 5, none⟩ (.bool x.a.v)).setCell ⟨g, j * 5 + 1, none⟩ (.int .u64 x.a.hi)).setCell ⟨g, j * 5 + 2, none⟩ (.int .u64 x.a.lo)).setCell ⟨g, j * 5 + 3, none⟩ (.string x.who)).setCell ⟨g, j * 5 + 4, none⟩ (.int .i64 x.un)) B t g c (l.set j x) ∧
    w.grownBy (((((w.setCell ⟨g, j * 5, none⟩ (.bool x.a.v)).setCell ⟨g, j * 5 + 1, none⟩ (.int .u64 x.a.hi)).setCell ⟨g, j * 5 + 2, none⟩ (.int .u64 x.a.lo)).setCell ⟨g, j * 5 + 3, none⟩ (.string x.who)).setCell ⟨g, j * 5 + 4, none⟩ (.int .i64 x.un)) (some g) := by
  obtain ⟨r, hr, hl⟩ := h.row
  have hle : j * 5 + 5 ≤ (rowOf lsE l ++ r).length := by
    rw [hl]
    have := h.le
    show j * 5 + 5 ≤ c * 5
    omega
  rw [set5_row hr _ _ _ _ _ hle]
  exact ⟨h.set j x hj _ ⟨r, hr, hl, rfl⟩, grown_row _ _ _⟩
/-- The row but for what is cut off. -/
theorem OwnAt.tail {α : Type} {E : Enc α} {w : World} {B t g c : Nat} {l : List α} (h : OwnAt E w B t g c l) (n : Nat) (hn : n ≤ l.length) (cs : List Value) (h1 : cs.length = c * E.k) (h2 : cs.take (n * E.k) = rowOf E (l.take n)) : OwnAt E (w.setRow g cs.toArray) B t g c (l.take n) := by
  obtain ⟨r, hr, hl⟩ := h.row
  refine ⟨h.base, by have := h.le; rw [List.length_take]; omega, h.max, cs.drop (n * E.k), ?_, ?_⟩
  · rw [← h2, List.take_append_drop]
    exact setRow_heap w g _ _ t _ hr
  · rw [← h2, List.take_append_drop]; exact h1
end Go.Proofs.Ytclnfkohlklbpaa
