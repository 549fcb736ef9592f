/- Addresses that come in and stay as they were. (AddrOrder's texts bear these words themselves: import one of the two.) -/
import Derived.Test.YtghbonlignmdoaaGreatDoorLift
set_option linter.unusedVariables false
set_option linter.unusedSimpArgs false
namespace Go.Proofs.YtghbonlignmdoaaGreatDoor
open Go.ChangeShapes Go.WideShapes Go.ChangeAt Go.WideMaps Go.WideElems Go.RowKit

def Wd (x : Int) : Prop := 0 ≤ x ∧ x < 18446744073709551616
theorem wd_of {x : Int} (h : (Lit.int .u64 x).wf = true) : Wd x := by
  have : 0 ≤ x ∧ x ≤ 18446744073709551615 := by simpa [Lit.wf, IntKind.min, IntKind.max, IntKind.signed, IntKind.bits] using h
  exact ⟨this.1, by omega⟩

set_option maxRecDepth 100000 in
/-- An address that came in, opened. -/
theorem open_addr {H : Type} {enc : TypeId × Value → H} {W : World} {base : Nat} {v : Value} {d : DataW H} {p : List MemPlace}
    (hv : Value.okWide Tryz.prog W .any base 25 v) (h : DataW.Trod enc Tryz.prog W 0 (fun _ => true) true 25 v d p) :
    ∃ (x : Bool) (y z : Int), v = .agg #[.bool x, .int .u64 y, .int .u64 z] ∧ d = .agg [.lit (.bool x), .lit (.int .u64 y), .lit (.int .u64 z)] ∧ p = [] ∧ Wd y ∧ Wd z ∧ (Lit.int .u64 y).wf = true ∧ (Lit.int .u64 z).wf = true := by
  obtain ⟨v0, v1, v2, y0, y1, y2, n, rfl, rfl, rfl, h0, h1, h2⟩ := Go.Joins.open_agg3 Tryz.underlying25 (by kernel_rfl) (by kernel_rfl) hv h
  obtain ⟨b, e0, rfl⟩ := DataW.trod_bool Tryz.underlying4 h0
  obtain ⟨i, e1, rfl, w1⟩ := DataW.trod_int Tryz.underlying23 h1
  obtain ⟨j, e2, rfl, w2⟩ := DataW.trod_int Tryz.underlying23 h2
  simp at e0 e1 e2
  subst e0 e1 e2
  exact ⟨b, i, j, rfl, rfl, rfl, wd_of w1, wd_of w2, w1, w2⟩

set_option maxRecDepth 100000 in
theorem shut_addr {H : Type} {enc : TypeId × Value → H} {W : World} {sp : Nat → Bool} {held : Bool} {base : Nat} (x : Bool) (y z : Int) (h1 : (Lit.int .u64 y).wf = true) (h2 : (Lit.int .u64 z).wf = true) :
    DataW.Trod enc Tryz.prog W base sp held 25 (.agg #[.bool x, .int .u64 y, .int .u64 z]) (.agg [.lit (.bool x), .lit (.int .u64 y), .lit (.int .u64 z)]) [] := by
  have := Go.Joins.shut_agg3 (enc := enc) (P := Tryz.prog) (w := W) (base := base) (spare := sp) (held := held) (v0 := .bool x) (v1 := .int .u64 y) (v2 := .int .u64 z) (y0 := (.lit (.bool x), [])) (y1 := (.lit (.int .u64 y), [])) (y2 := (.lit (.int .u64 z), [])) Tryz.underlying25 (by kernel_rfl) (by kernel_rfl)
    ⟨1, by simp [DataW.trod, Tryz.underlying4]⟩ ⟨1, by simp [DataW.trod, Tryz.underlying23, h1]⟩ ⟨1, by simp [DataW.trod, Tryz.underlying23, h2]⟩
  exact this

end Go.Proofs.YtghbonlignmdoaaGreatDoor
