/- prefix.Halves and prefix.Whole where nothing is wrong. -/
import Derived.Test.YtclnfkohlklbpaaPfE
set_option linter.unusedVariables false
set_option linter.unusedSimpArgs false
namespace Go.Proofs.Ytclnfkohlklbpaa
open Go.RowKit

def eqP (v : Bool) (hi lo b : Int) (u : Bool) (yi yo c : Int) : Bool := eqA v hi lo u yi yo && (b == c)
theorem neq_pf (v : Bool) (hi lo b : Int) (u : Bool) (yi yo c : Int) (w : World) :
    (binOp .neq 40 (.agg #[.bool v, .int .u64 hi, .int .u64 lo, .int .i64 b]) (.agg #[.bool u, .int .u64 yi, .int .u64 yo, .int .i64 c])).run Try.prog w = .ok (.bool (!(eqP v hi lo b u yi yo c))) w := by
  unfold eqP eqA
  cases h1 : v == u <;> cases h2 : hi == yi <;> cases h3 : lo == yo <;> cases h4 : b == c <;> simp [go_sem, h1, h2, h3, h4]
theorem eql_pf (v : Bool) (hi lo b : Int) (u : Bool) (yi yo c : Int) (w : World) :
    (binOp .eql 40 (.agg #[.bool v, .int .u64 hi, .int .u64 lo, .int .i64 b]) (.agg #[.bool u, .int .u64 yi, .int .u64 yo, .int .i64 c])).run Try.prog w = .ok (.bool (eqP v hi lo b u yi yo c)) w := by
  unfold eqP eqA
  cases h1 : v == u <;> cases h2 : hi == yi <;> cases h3 : lo == yo <;> cases h4 : b == c <;> simp [go_sem, h1, h2, h3, h4]

end Go.Proofs.Ytclnfkohlklbpaa
