/- The law's do: ops, one by one, that are all done. -/
import Derived.Test.YtclnfkohlklbpaaGreatQ30
set_option linter.unusedVariables false
set_option linter.unusedSimpArgs false
namespace Go.Proofs.YtclnfkohlklbpaaGreat
open Go.RowKit

def opE : Enc Opd := ⟨11, fun x => [.int .i64 x.k, .bool x.p.v, .int .u64 x.p.hi, .int .u64 x.p.lo, .int .i64 x.p.b, .bool x.a.v, .int .u64 x.a.hi, .int .u64 x.a.lo, .string x.who, .int .i64 x.pof, .int .i64 x.n], by decide, fun _ => rfl, fun x u hu => by simp at hu; rcases hu with rfl | rfl | rfl | rfl | rfl | rfl | rfl | rfl | rfl | rfl | rfl <;> rfl⟩
theorem Lies.op {w : World} {a : Option Addr} {l : List Opd} (h : Lies opE w a l) (j : Nat) (hj : j < l.length) : ∃ g o : Nat, a = some ⟨g, o, none⟩ ∧ g < w.heap.size ∧ w.cell? ⟨g, o + j * 11, none⟩ = some (.int .i64 l[j].k) ∧ w.cell? ⟨g, o + j * 11 + 1, none⟩ = some (.bool l[j].p.v) ∧ w.cell? ⟨g, o + j * 11 + 2, none⟩ = some (.int .u64 l[j].p.hi) ∧ w.cell? ⟨g, o + j * 11 + 3, none⟩ = some (.int .u64 l[j].p.lo) ∧ w.cell? ⟨g, o + j * 11 + 4, none⟩ = some (.int .i64 l[j].p.b) ∧ w.cell? ⟨g, o + j * 11 + 5, none⟩ = some (.bool l[j].a.v) ∧ w.cell? ⟨g, o + j * 11 + 6, none⟩ = some (.int .u64 l[j].a.hi) ∧ w.cell? ⟨g, o + j * 11 + 7, none⟩ = some (.int .u64 l[j].a.lo) ∧ w.cell? ⟨g, o + j * 11 + 8, none⟩ = some (.string l[j].who) ∧ w.cell? ⟨g, o + j * 11 + 9, none⟩ = some (.int .i64 l[j].pof) ∧ w.cell? ⟨g, o + j * 11 + 10, none⟩ = some (.int .i64 l[j].n) := by
  obtain ⟨g, o, e, hg, ch⟩ := h j hj
  exact ⟨g, o, e, hg, ch 0 _ rfl, ch 1 _ rfl, ch 2 _ rfl, ch 3 _ rfl, ch 4 _ rfl, ch 5 _ rfl, ch 6 _ rfl, ch 7 _ rfl, ch 8 _ rfl, ch 9 _ rfl, ch 10 _ rfl⟩
end Go.Proofs.YtclnfkohlklbpaaGreat
