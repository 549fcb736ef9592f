/- Addresses and leases as plain words; lease.right, lease.look: are they right? -/
import Derived.Test.YtclnfkohlklbpaaGnA
import Derived.Test.YtclnfkohlklbpaaNmA
set_option linter.unusedVariables false
set_option linter.unusedSimpArgs false
namespace Go.Proofs.Ytclnfkohlklbpaa
open Go.RowKit

/-- An address whose halves are words. -/
structure Ad where
  v : Bool
  hi : Int
  lo : Int
  ok : (0 ≤ hi ∧ hi < 18446744073709551616) ∧ (0 ≤ lo ∧ lo < 18446744073709551616)
/-- A lease. -/
structure Ls where
  a : Ad
  who : ByteArray
  un : Int
theorem Ad.same {x y : Ad} (h0 : x.v = y.v) (h1 : x.hi = y.hi) (h2 : x.lo = y.lo) : x = y := by
  cases x; cases y; simp at h0 h1 h2; subst h0; subst h1; subst h2; rfl
def adE : Enc Ad := ⟨3, fun x => [.bool x.v, .int .u64 x.hi, .int .u64 x.lo], by decide, fun _ => rfl, fun x u hu => by simp at hu; rcases hu with rfl | rfl | rfl <;> rfl⟩
def lsE : Enc Ls := ⟨5, fun x => [.bool x.a.v, .int .u64 x.a.hi, .int .u64 x.a.lo, .string x.who, .int .i64 x.un], by decide, fun _ => rfl, fun x u hu => by simp at hu; rcases hu with rfl | rfl | rfl | rfl | rfl <;> rfl⟩
theorem Lies.ad {w : World} {a : Option Addr} {l : List Ad} (h : Lies adE w a l) (j : Nat) (hj : j < l.length) : ∃ g o : Nat, a = some ⟨g, o, none⟩ ∧ g < w.heap.size ∧ w.cell? ⟨g, o + j * 3, none⟩ = some (.bool l[j].v) ∧ w.cell? ⟨g, o + j * 3 + 1, none⟩ = some (.int .u64 l[j].hi) ∧ w.cell? ⟨g, o + j * 3 + 2, none⟩ = some (.int .u64 l[j].lo) := by
  obtain ⟨g, o, e, hg, c⟩ := h j hj
  exact ⟨g, o, e, hg, c 0 _ rfl, c 1 _ rfl, c 2 _ rfl⟩
theorem Lies.ls {w : World} {a : Option Addr} {l : List Ls} (h : Lies lsE w a l) (j : Nat) (hj : j < l.length) : ∃ g o : Nat, a = some ⟨g, o, none⟩ ∧ g < w.heap.size ∧ w.cell? ⟨g, o + j * 5, none⟩ = some (.bool l[j].a.v) ∧ w.cell? ⟨g, o + j * 5 + 1, none⟩ = some (.int .u64 l[j].a.hi) ∧ w.cell? ⟨g, o + j * 5 + 2, none⟩ = some (.int .u64 l[j].a.lo) ∧ w.cell? ⟨g, o + j * 5 + 3, none⟩ = some (.string l[j].who) ∧ w.cell? ⟨g, o + j * 5 + 4, none⟩ = some (.int .i64 l[j].un) := by
  obtain ⟨g, o, e, hg, c⟩ := h j hj
  exact ⟨g, o, e, hg, c 0 _ rfl, c 1 _ rfl, c 2 _ rfl, c 3 _ rfl, c 4 _ rfl⟩

/-- Five cells of a variable. -/
def Has5 (w : World) (p : Nat) (x0 x1 x2 x3 x4 : Value) : Prop := w.cell? ⟨p, 0, none⟩ = some x0 ∧ w.cell? ⟨p, 1, none⟩ = some x1 ∧ w.cell? ⟨p, 2, none⟩ = some x2 ∧ w.cell? ⟨p, 3, none⟩ = some x3 ∧ w.cell? ⟨p, 4, none⟩ = some x4 ∧ p < w.heap.size
theorem Has5.below {W w' : World} {p : Nat} {x0 x1 x2 x3 x4 : Value} (h : Has5 W p x0 x1 x2 x3 x4) (hb : Below W.heap.size W w') : Has5 w' p x0 x1 x2 x3 x4 := by
  obtain ⟨a, b, c, d, e, f⟩ := h
  obtain ⟨h1, _⟩ := bcell hb
  exact ⟨by rw [h1 _ _ f]; exact a, by rw [h1 _ _ f]; exact b, by rw [h1 _ _ f]; exact c, by rw [h1 _ _ f]; exact d, by rw [h1 _ _ f]; exact e, Nat.lt_of_lt_of_le f hb.size⟩
theorem Has5.new (W : World) (x0 x1 x2 x3 x4 : Value) (t : Nat) : Has5 (W.alloc (.cells #[x0, x1, x2, x3, x4] t)) W.heap.size x0 x1 x2 x3 x4 := by
  refine ⟨?_, ?_, ?_, ?_, ?_, ?_⟩
  · simp [go_sem]
  · simp [go_sem]
  · simp [go_sem]
  · simp [go_sem]
  · simp [go_sem]
  · simp
theorem Has5.alloc {W : World} {p : Nat} {x0 x1 x2 x3 x4 : Value} (h : Has5 W p x0 x1 x2 x3 x4) (o : Obj) : Has5 (W.alloc o) p x0 x1 x2 x3 x4 := h.below (bal (Below.refl _ _) _)

/-- What is wrong with a lease. -/
def Ls.rgt (x : Ls) : Int := if chk x.a.v x.a.hi x.a.lo = 0 then (if whoB x.who = true then (if x.un < 0 ∨ 10499 < x.un then 3 else 0) else 1) else chk x.a.v x.a.hi x.a.lo

end Go.Proofs.Ytclnfkohlklbpaa
