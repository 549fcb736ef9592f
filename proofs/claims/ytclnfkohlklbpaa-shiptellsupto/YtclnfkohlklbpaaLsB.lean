/- lease.look: are leases right, do they rise, is it a time? -/
import Derived.Test.YtclnfkohlklbpaaLsA
set_option linter.unusedVariables false
set_option linter.unusedSimpArgs false
namespace Go.Proofs.Ytclnfkohlklbpaa
open Go.RowKit

def Ad.less (x y : Ad) : Bool := lessB x.v x.hi x.lo y.v y.hi y.lo
/-- The first lease of which something is wrong tells. -/
def rgtAll : List Ls → Int
  | [] => 0
  | x :: r => if x.rgt = 0 then rgtAll r else x.rgt
def rises : List Ls → Bool
  | [] => true
  | [_] => true
  | x :: y :: r => x.a.less y.a && rises (y :: r)
def lookL (l : List Ls) (now : Int) : Int := if 20 < l.length then 2 else if rgtAll l = 0 then (if rises l = true then (if now < 0 ∨ 9999 < now then 3 else 0) else 4) else rgtAll l
theorem rises_at (l : List Ls) (m : Nat) (h : m + 1 < l.length) : rises (l.drop m) = (l[m].a.less l[m + 1].a && rises (l.drop (m + 1))) := by
  rw [List.drop_eq_getElem_cons (show m < l.length by omega), List.drop_eq_getElem_cons (show m + 1 < l.length from h), rises]
theorem rises_end (l : List Ls) (m : Nat) (h : l.length ≤ m + 1) : rises (l.drop m) = true := by
  match e : l.drop m with
  | [] => rfl
  | [_] => rfl
  | x :: y :: r =>
    have := congrArg List.length e
    simp at this
    omega
theorem keepA33 {w W W' : World} {g a b : Nat} {x0 x1 x2 y0 y1 y2 : Value}
    (h : (W.cell? ⟨g, a, none⟩ = some x0 ∧ W.cell? ⟨g, a + 1, none⟩ = some x1 ∧ W.cell? ⟨g, a + 2, none⟩ = some x2) ∧ (W.cell? ⟨g, b, none⟩ = some y0 ∧ W.cell? ⟨g, b + 1, none⟩ = some y1 ∧ W.cell? ⟨g, b + 2, none⟩ = some y2) ∧ g < W.heap.size ∧ Below w.heap.size w W) (hb : Below W.heap.size W W') :
    (W'.cell? ⟨g, a, none⟩ = some x0 ∧ W'.cell? ⟨g, a + 1, none⟩ = some x1 ∧ W'.cell? ⟨g, a + 2, none⟩ = some x2) ∧ (W'.cell? ⟨g, b, none⟩ = some y0 ∧ W'.cell? ⟨g, b + 1, none⟩ = some y1 ∧ W'.cell? ⟨g, b + 2, none⟩ = some y2) ∧ g < W'.heap.size ∧ Below w.heap.size w W' := by
  obtain ⟨⟨a0, a1, a2⟩, ⟨b0, b1, b2⟩, hg, hw⟩ := h
  have k := (bcell hb).1
  exact ⟨⟨by rw [k _ _ hg]; exact a0, by rw [k _ _ hg]; exact a1, by rw [k _ _ hg]; exact a2⟩, ⟨by rw [k _ _ hg]; exact b0, by rw [k _ _ hg]; exact b1, by rw [k _ _ hg]; exact b2⟩, Nat.lt_of_lt_of_le hg hb.size, btr hw hb⟩

end Go.Proofs.Ytclnfkohlklbpaa
