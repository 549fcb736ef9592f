/- Rows of elements of k cells each, one behind the other: how they lie, and rows of a call's own. -/
import Derived.Test.YtclnfkohlklbpaaTmB
import Derived.Laws.CopyOwn
set_option linter.unusedVariables false
set_option linter.unusedSimpArgs false
namespace Go.Proofs.Ytclnfkohlklbpaa
open Go.RowKit

/-- How an element lies in memory: k cells. -/
structure Enc (α : Type) where
  k : Nat
  f : α → List Value
  pos : 0 < k
  len : ∀ x, (f x).length = k
  one : ∀ x, ∀ u ∈ f x, u.oneCell' = true

/-- The cells of elements, one behind the other. -/
def rowOf {α : Type} (E : Enc α) : List α → List Value
  | [] => []
  | x :: r => E.f x ++ rowOf E r
theorem rowOf_len {α : Type} (E : Enc α) : ∀ l : List α, (rowOf E l).length = l.length * E.k
  | [] => by simp [rowOf]
  | x :: r => by rw [rowOf, List.length_append, E.len, rowOf_len E r, List.length_cons, Nat.add_mul]; omega
theorem rowOf_append {α : Type} (E : Enc α) : ∀ l r : List α, rowOf E (l ++ r) = rowOf E l ++ rowOf E r
  | [], r => rfl
  | x :: l, r => by rw [List.cons_append, rowOf, rowOf, rowOf_append E l r, List.append_assoc]
theorem rowOf_one {α : Type} (E : Enc α) (l : List α) : ∀ u ∈ rowOf E l, u.oneCell' = true := by
  induction l with
  | nil => simp [rowOf]
  | cons x r ih =>
    intro u hu
    rw [rowOf, List.mem_append] at hu
    rcases hu with hu | hu
    · exact E.one x u hu
    · exact ih u hu
theorem rowOf_take {α : Type} (E : Enc α) (l : List α) (n : Nat) : rowOf E (l.take n) = (rowOf E l).take (n * E.k) := by
  induction l generalizing n with
  | nil => simp [rowOf]
  | cons x r ih =>
    cases n with
    | zero => simp [rowOf]
    | succ n =>
      have e1 : (n + 1) * E.k = n * E.k + E.k := by rw [Nat.add_mul, Nat.one_mul]
      have e2 : (E.f x).take ((n + 1) * E.k) = E.f x := List.take_of_length_le (by rw [E.len, e1]; omega)
      rw [List.take_succ_cons, rowOf, rowOf, ih, List.take_append, e2, E.len, e1, Nat.add_sub_cancel]
theorem rowOf_drop {α : Type} (E : Enc α) (l : List α) (n : Nat) : rowOf E (l.drop n) = (rowOf E l).drop (n * E.k) := by
  induction l generalizing n with
  | nil => simp [rowOf]
  | cons x r ih =>
    cases n with
    | zero => simp [rowOf]
    | succ n =>
      have e1 : (n + 1) * E.k = n * E.k + E.k := by rw [Nat.add_mul, Nat.one_mul]
      have e2 : (E.f x).drop ((n + 1) * E.k) = [] := List.drop_eq_nil_of_le (by rw [E.len, e1]; omega)
      rw [List.drop_succ_cons, rowOf, ih, List.drop_append, e2, E.len, e1, Nat.add_sub_cancel, List.nil_append]
theorem rowOf_at {α : Type} (E : Enc α) : ∀ (l : List α) (j : Nat) (h : j < l.length) (i : Nat) (hi : i < E.k), (rowOf E l)[j * E.k + i]? = (E.f l[j])[i]?
  | x :: r, 0, _, i, hi => by rw [rowOf, Nat.zero_mul, Nat.zero_add, List.getElem?_append_left (by rw [E.len]; exact hi)]; rfl
  | x :: r, j + 1, h, i, hi => by
    rw [rowOf, List.getElem?_append_right (by rw [E.len, Nat.add_mul]; omega), E.len, show (j + 1) * E.k + i - E.k = j * E.k + i by rw [Nat.add_mul]; omega, rowOf_at E r j (by simpa using h) i hi]
    rfl
theorem rowOf_set {α : Type} (E : Enc α) : ∀ (l : List α) (j : Nat) (x : α), j < l.length → splice (rowOf E l) (j * E.k) (E.f x) = rowOf E (l.set j x)
  | y :: r, 0, x, _ => by
    rw [splice, rowOf, Nat.zero_mul, Nat.zero_add, List.take_zero, List.nil_append, E.len, List.set_cons_zero, rowOf, List.drop_append, List.drop_eq_nil_of_le (by rw [E.len]; exact Nat.le_refl _), E.len]
    simp
  | y :: r, j + 1, x, h => by
    have ih := rowOf_set E r j x (by simpa using h)
    rw [List.set_cons_succ, rowOf, rowOf, ← ih, splice, splice]
    rw [List.take_append, List.drop_append, List.take_of_length_le (by rw [E.len, Nat.add_mul]; omega), List.drop_eq_nil_of_le (by rw [E.len, E.len, Nat.add_mul]; omega), E.len, E.len]
    rw [show (j + 1) * E.k - E.k = j * E.k by rw [Nat.add_mul]; omega, show (j + 1) * E.k + E.k - E.k = j * E.k + E.k by rw [Nat.add_mul]; omega]
    simp [List.append_assoc]

/-- Elements that lie in a row behind a slice. -/
def Lies {α : Type} (E : Enc α) (w : World) (a : Option Addr) (l : List α) : Prop :=
  ∀ j (h : j < l.length), ∃ g o : Nat, a = some ⟨g, o, none⟩ ∧ g < w.heap.size ∧ ∀ i v, (E.f l[j])[i]? = some v → w.cell? ⟨g, o + j * E.k + i, none⟩ = some v
theorem Lies.below {α : Type} {E : Enc α} {w w' : World} {a : Option Addr} {l : List α} (h : Lies E w a l) (hb : Below w.heap.size w w') : Lies E w' a l := by
  intro j hj
  obtain ⟨g, o, e, hg, c⟩ := h j hj
  exact ⟨g, o, e, Nat.lt_of_lt_of_le hg hb.size, fun i v hv => by rw [(bcell hb).1 _ _ hg]; exact c i v hv⟩
theorem Lies.upto {α : Type} {E : Enc α} {w w' : World} {B : Nat} {a : Option Addr} {l : List α} (h : Lies E w a l) (ha : ∀ g o, a = some ⟨g, o, none⟩ → g < B) (hb : Below B w w') : Lies E w' a l := by
  intro j hj
  obtain ⟨g, o, e, hg, c⟩ := h j hj
  exact ⟨g, o, e, Nat.lt_of_lt_of_le hg hb.size, fun i v hv => by rw [hb.cell (p := ⟨g, _, none⟩) (ha g o e)]; exact c i v hv⟩
theorem Lies.take {α : Type} {E : Enc α} {w : World} {a : Option Addr} {l : List α} (h : Lies E w a l) (k : Nat) : Lies E w a (l.take k) := by
  intro j hj
  have hj' : j < l.length := by rw [List.length_take] at hj; omega
  obtain ⟨g, o, e, hg, c⟩ := h j hj'
  refine ⟨g, o, e, hg, ?_⟩
  rw [List.getElem_take]
  exact c
theorem Lies.drop {α : Type} {E : Enc α} {w : World} {g o : Nat} {l : List α} (h : Lies E w (some ⟨g, o, none⟩) l) (k : Nat) : Lies E w (some ⟨g, o + k * E.k, none⟩) (l.drop k) := by
  intro j hj
  have hj' : k + j < l.length := by rw [List.length_drop] at hj; omega
  obtain ⟨g', o', e, hg, c⟩ := h (k + j) hj'
  obtain ⟨rfl, rfl⟩ : g = g' ∧ o = o' := by simpa using e
  refine ⟨g, o + k * E.k, rfl, hg, ?_⟩
  rw [List.getElem_drop]
  intro i v hv
  rw [show o + k * E.k + j * E.k + i = o + (k + j) * E.k + i by rw [Nat.add_mul]; omega]
  exact c i v hv
theorem Lies.nil {α : Type} (E : Enc α) (w : World) (a : Option Addr) : Lies E w a [] := fun j hj => by simp at hj
/-- The cells of a slice, as append wants them. -/
theorem Lies.news {α : Type} {E : Enc α} {w : World} {a : Addr} {l : List α} (h : Lies E w (some a) l) : ∀ j u, (rowOf E l)[j]? = some u → w.cell? (a.add j) = some u := by
  intro j u hj
  have hlt : j < (rowOf E l).length := (List.getElem?_eq_some_iff.1 hj).1
  rw [rowOf_len] at hlt
  have hp := E.pos
  have hm : j / E.k < l.length := by rw [Nat.div_lt_iff_lt_mul hp]; exact hlt
  obtain ⟨g, o, e, _, c⟩ := h (j / E.k) hm
  obtain rfl : a = ⟨g, o, none⟩ := by simpa using e
  have hr : j % E.k < E.k := Nat.mod_lt _ hp
  have hd : j = j / E.k * E.k + j % E.k := by rw [Nat.mul_comm]; exact (Nat.div_add_mod _ _).symm
  rw [add_addr]
  have hj' : (E.f l[j / E.k])[j % E.k]? = some u := by rw [← rowOf_at E l _ hm _ hr, ← hd]; exact hj
  have := c _ _ hj'
  rw [show o + j = o + j / E.k * E.k + j % E.k by omega]
  exact this
theorem Lies.none_nil {α : Type} {E : Enc α} {w : World} {l : List α} (h : Lies E w none l) : l = [] := by
  apply Classical.byContradiction
  intro hn
  obtain ⟨g, o, e, _⟩ := h 0 (List.length_pos_iff.2 hn)
  exact absurd e (by simp)

/-- A row of the call's own, written out: block g, capacity c. -/
structure OwnAt {α : Type} (E : Enc α) (w : World) (B t g c : Nat) (l : List α) : Prop where
  base : B ≤ g
  le : l.length ≤ c
  max : c ≤ maxLen
  row : ∃ rest : List Value, w.heap[g]? = some (.cells (rowOf E l ++ rest).toArray t (0, 0)) ∧ (rowOf E l ++ rest).length = c * E.k
theorem OwnAt.lt {α : Type} {E : Enc α} {w : World} {B t g c : Nat} {l : List α} (h : OwnAt E w B t g c l) : g < w.heap.size := by
  obtain ⟨r, hr, _⟩ := h.row
  exact (Array.getElem?_eq_some_iff.1 hr).1
theorem OwnAt.own {α : Type} {E : Enc α} {w : World} {B t g c : Nat} {l : List α} (h : OwnAt E w B t g c l) : w.ownsRow B t E.k (.slice (some ⟨g, 0, none⟩) l.length c) l.length (rowOf E l) := by
  obtain ⟨r, hr, hl⟩ := h.row
  refine ⟨rowOf_len E l, .inr ⟨g, c, _, rfl, h.base, hr, h.le, h.max, by simpa using hl, ?_⟩⟩
  rw [← rowOf_len E l]
  simp
theorem own_at {α : Type} {E : Enc α} {w : World} {B t g c n : Nat} {l : List α} (h : w.ownsRow B t E.k (.slice (some ⟨g, 0, none⟩) n c) l.length (rowOf E l)) : n = l.length ∧ OwnAt E w B t g c l := by
  obtain ⟨h1, h2⟩ := h
  rcases h2 with ⟨e, _⟩ | ⟨g', c', cur, e, hb, hc, h3, h4, h5, h6⟩
  · simp at e
  · simp at e
    obtain ⟨rfl, rfl, rfl⟩ := e
    refine ⟨rfl, hb, h3, h4, cur.toList.drop (l.length * E.k), ?_, ?_⟩
    · rw [← h6, List.take_append_drop]
      simpa using hc
    · rw [← h6, List.take_append_drop]
      simpa using h5
theorem own_form {α : Type} {E : Enc α} {w : World} {B t : Nat} {v : Value} {l : List α} (h : w.ownsRow B t E.k v l.length (rowOf E l)) : (v = .slice none 0 0 ∧ l = []) ∨ ∃ g c, v = .slice (some ⟨g, 0, none⟩) l.length c ∧ OwnAt E w B t g c l := by
  rcases h.2 with ⟨rfl, h2⟩ | ⟨g, c, cur, rfl, _⟩
  · exact .inl ⟨rfl, List.length_eq_zero_iff.1 h2⟩
  · exact .inr ⟨g, c, rfl, (own_at h).2⟩
theorem OwnAt.lies {α : Type} {E : Enc α} {w : World} {B t g c : Nat} {l : List α} (h : OwnAt E w B t g c l) : Lies E w (some ⟨g, 0, none⟩) l := by
  obtain ⟨r, hr, hl⟩ := h.row
  intro j hj
  refine ⟨g, 0, rfl, h.lt, fun i v hv => ?_⟩
  have hi : i < E.k := by have := (List.getElem?_eq_some_iff.1 hv).1; rw [E.len] at this; exact this
  have hlt : j * E.k + i < (rowOf E l).length := by
    rw [rowOf_len]
    have : (j + 1) * E.k ≤ l.length * E.k := Nat.mul_le_mul_right _ hj
    rw [Nat.add_mul] at this; omega
  have key := rowOf_at E l j hj i hi
  rw [hv] at key
  simp only [World.cell?, hr, Nat.zero_add]
  have : ((rowOf E l ++ r).toArray)[j * E.k + i]? = some v := by
    rw [List.getElem?_toArray, List.getElem?_append_left hlt]; exact key
  simpa using this
theorem OwnAt.keep {α : Type} {E : Enc α} {w w' : World} {B t g c : Nat} {l : List α} (h : OwnAt E w B t g c l) (hb : Below w.heap.size w w') : OwnAt E w' B t g c l := by
  obtain ⟨r, hr, hl⟩ := h.row
  exact ⟨h.base, h.le, h.max, r, (hb.block g h.lt).trans hr, hl⟩
theorem OwnAt.lower {α : Type} {E : Enc α} {w : World} {B B' t g c : Nat} {l : List α} (h : OwnAt E w B t g c l) (hB : B' ≤ B) : OwnAt E w B' t g c l := ⟨Nat.le_trans hB h.base, h.le, h.max, h.row⟩
theorem OwnAt.cut {α : Type} {E : Enc α} {w : World} {B t g c : Nat} {l : List α} (h : OwnAt E w B t g c l) (n : Nat) : OwnAt E w B t g c (l.take n) := by
  obtain ⟨r, hr, hl⟩ := h.row
  refine ⟨h.base, by have := h.le; rw [List.length_take]; omega, h.max, (rowOf E (l.drop n)) ++ r, ?_, ?_⟩
  · rw [← List.append_assoc, ← rowOf_append, List.take_append_drop]; exact hr
  · rw [← List.append_assoc, ← rowOf_append, List.take_append_drop]; exact hl
/-- Worlds that part in one block alone, and in what is new. -/
theorem grown_row (w : World) (g : Nat) (cs : Array Value) : w.grownBy (w.setRow g cs) (some g) :=
  ⟨rfl, rfl, rfl, by simp, fun k hk hn => setRow_other w g k cs (fun e => hn (by rw [e]))⟩
theorem grown_below {w w' : World} {row : Option Nat} (h : Below w.heap.size w w') : w.grownBy w' row := ⟨h.os, h.tape, h.output, h.size, fun k hk _ => h.block k hk⟩
theorem grown_upto {w w' : World} {g B : Nat} (h : w.grownBy w' (some g)) (hB : B ≤ g) (hw : B ≤ w.heap.size) : Below B w w' := ⟨h.os, h.tape, h.output, h.size, fun k hk => h.block k (by omega) (fun e => by injection e with e; omega)⟩
theorem OwnAt.set {α : Type} {E : Enc α} {w : World} {B t g c : Nat} {l : List α} (h : OwnAt E w B t g c l) (j : Nat) (x : α) (hj : j < l.length) (cs : Array Value) (hcs : ∃ rest : List Value, w.heap[g]? = some (.cells (rowOf E l ++ rest).toArray t (0, 0)) ∧ (rowOf E l ++ rest).length = c * E.k ∧ cs = (splice (rowOf E l ++ rest) (j * E.k) (E.f x)).toArray) : OwnAt E (w.setRow g cs) B t g c (l.set j x) := by
  obtain ⟨r, hr, hl, rfl⟩ := hcs
  have hle : j * E.k + (E.f x).length ≤ (rowOf E l).length := by
    rw [E.len, rowOf_len]
    have : (j + 1) * E.k ≤ l.length * E.k := Nat.mul_le_mul_right _ hj
    rw [Nat.add_mul] at this; omega
  have e : splice (rowOf E l ++ r) (j * E.k) (E.f x) = rowOf E (l.set j x) ++ r := by
    rw [← rowOf_set E l j x hj, splice, splice, List.take_append_of_le_length (by omega), List.drop_append_of_le_length (by omega)]
    simp [List.append_assoc]
  refine ⟨h.base, by rw [List.length_set]; exact h.le, h.max, r, ?_, ?_⟩
  · rw [← e]
    exact setRow_heap w g _ _ t _ hr
  · rw [List.length_append, rowOf_len, List.length_set, ← rowOf_len E l, ← List.length_append]; exact hl
end Go.Proofs.Ytclnfkohlklbpaa
