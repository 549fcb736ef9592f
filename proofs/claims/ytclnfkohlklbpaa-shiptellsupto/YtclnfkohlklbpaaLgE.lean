/- log.Add. -/
import Derived.Test.YtclnfkohlklbpaaFnB
import Derived.Test.YtclnfkohlklbpaaLgD
set_option linter.unusedVariables false
set_option linter.unusedSimpArgs false
namespace Go.Proofs.Ytclnfkohlklbpaa
open Go.RowKit

/-- The entry that comes behind all. -/
def newE (l : List En) (ep : Int) (o : Opd) : En := ⟨(l.length : Int) + 1, ep, o⟩
/-- What Add says. -/
def addE (l : List En) (ep : Int) (o : Opd) : Int := if logE l = 0 then (if follE l ⟨(l.length : Int) + 1, ep, o⟩ = 0 then (if l.length < 30 then 0 else 2) else follE l ⟨(l.length : Int) + 1, ep, o⟩) else logE l
theorem keepE2 {w W W' : World} {b : Nat} {l : List Value} (h : HasL W b 0 l ∧ Below w.heap.size w W) (hb : Below W.heap.size W W') : HasL W' b 0 l ∧ Below w.heap.size w W' := ⟨h.1.below hb, btr h.2 hb⟩
theorem at_wld (W : World) {q : Prop} [Decidable q] {P : Program} {o : Oper} {a : Act} {w : World} {K : Act → World → Prop} {Q : Exit → Act → World → Prop} {E : Prop} (hw : w = W) (h : if q then Oper.wp P o a W K Q else E) : if q then Oper.wp P o a w K Q else E := by rw [hw]; exact h
theorem news1 {W : World} {vb t : Nat} {l : List Value} (hx : W.heap[vb]? = some (.cells l.toArray t (0, 0))) : ∀ j u, l[j]? = some u → W.cell? ((⟨vb, 0, none⟩ : Addr).add j) = some u := by
  intro j u hj
  rw [add_addr, Nat.zero_add]
  simp only [World.cell?, hx]
  simpa using hj
end Go.Proofs.Ytclnfkohlklbpaa
