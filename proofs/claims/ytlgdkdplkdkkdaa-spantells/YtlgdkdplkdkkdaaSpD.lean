/- yardarmlaw.prefixesAre; the document's HasAddr at prefixes. -/
import Derived.Test.YtlgdkdplkdkkdaaSaA
import Derived.Test.YtlgdkdplkdkkdaaReA
import Derived.Test.YtlgdkdplkdkkdaaSpQ
set_option linter.unusedVariables false
set_option linter.unusedSimpArgs false
namespace Go.Proofs.Ytlgdkdplkdkkdaa
open Go.RowKit

theorem pare_err (e : Int) (v : Value) (w : World) (h : (e != 0) = true) : Calls Try.prog 13 #[.slice none 0 0, .int .i64 e, .int .i64 e, v] w fun x w' => x = .returned (.bool true) ∧ Below w.heap.size w w' := by
  have HS : Hid (∀ w : World, Calls Try.prog 28 #[.slice none 0 0, .slice none 0 0] w fun e w' => e = .returned (.bool true) ∧ Below w.heap.size w w') := fun w => same_any none none 0 0 [] w (by simp) (fun j hj => by simp at hj) (fun j hj => by simp at hj)
  go_enter Try.func13, Try.ntmps13
  go_wp2_with fail
  refine (HS.out _).mono ?_
  rintro x w2 ⟨rfl, hb⟩
  have HB := Lib.hid hb
  clear hb
  go_wp2
  go_ret
  exact ⟨rfl, HB.out⟩
theorem pare_ok (a b : Option Addr) (c d : Nat) (L : List Pf) (w : World) (hl : L.length ≤ 100000) (ha : Sl w a L) (hb : Sl w b L) : Calls Try.prog 13 #[.slice a L.length c, .int .i64 0, .int .i64 0, .slice b L.length d] w fun x w' => x = .returned (.bool true) ∧ Below w.heap.size w w' := by
  have HS := Lib.hid (same_any a b c d L w hl ha hb)
  generalize L.length = N at *
  clear ha hb
  go_enter Try.func13, Try.ntmps13
  go_wp2_with fail
  refine HS.out.mono ?_
  rintro x w2 ⟨rfl, hb⟩
  have HB := Lib.hid hb
  clear hb
  go_wp2
  go_ret
  exact ⟨rfl, HB.out⟩
theorem rhasA_any (p : Pf) (v : Bool) (xh xl : Int) (w : World) (r : p.R) (q : Right v xh xl (wid v)) :
    Calls Try.prog 11 #[.agg #[.bool p.v, .int .u64 p.hi, .int .u64 p.lo, .int .i64 p.b], .agg #[.bool v, .int .u64 xh, .int .u64 xl]] w fun e w' => e = .returned (.bool (p.inA v xh xl)) ∧ Below w.heap.size w w' := by
  obtain ⟨h, l, b, e1, e2, e3⟩ := pf_nat r
  have r' : Right p.v h l b := by rw [← e1, ← e2, ← e3]; exact r
  have f1 : xh = (xh.toNat : Int) := by have := q.h0; omega
  have f2 : xl = (xl.toNat : Int) := by have := q.l0; omega
  have q' : Right v xh.toNat xl.toNat (wid v) := by rw [← f1, ← f2]; exact q
  have hb := r'.b1
  have hb' := r.b1
  have h1 := r'.h1
  have h2 := r'.l1
  have h3 := q'.h1
  have h4 := q'.l1
  have := hasAddr_any p.v h l b v xh.toNat xl.toNat w (by omega) (by omega) (by omega) (by omega) hb
  have e : p.inA v xh xl = ((p.v == v) && ((bitsT p.v h l).take b == (bitsT v xh.toNat xl.toNat).take b)) := by
    rw [in_has r q]
    unfold Pf.has
    simp only
    rw [e1, e2, e3, f1, f2]
    simp only [Int.toNat_natCast]
    rw [has_bits r' q']
    by_cases hv : p.v = v
    · rw [← hv, decide_eq_true hb, Bool.true_and]
    · rw [beq_eq_false_iff_ne.2 hv]; simp
  rw [e, e1, e2, e3]
  rw [← f1, ← f2] at this
  exact this
end Go.Proofs.Ytlgdkdplkdkkdaa
