/- Ops as plain words; state.ranged, state.named. -/
import Derived.Test.YtclnfkohlklbpaaLsG
set_option linter.unusedVariables false
set_option linter.unusedSimpArgs false
namespace Go.Proofs.Ytclnfkohlklbpaa
open Go.RowKit

/-- An op whose prefix and address are words. -/
structure Opd where
  k : Int
  p : Pf
  a : Ad
  who : ByteArray
  pof : Int
  n : Int
  pok : p.Ok
theorem Opd.same {x y : Opd} (h0 : x.k = y.k) (h1 : x.p = y.p) (h2 : x.a = y.a) (h3 : x.who = y.who) (h4 : x.pof = y.pof) (h5 : x.n = y.n) : x = y := by
  cases x; cases y; simp at h0 h1 h2 h3 h4 h5; subst h0; subst h1; subst h2; subst h3; subst h4; subst h5; rfl
def zPf : Pf := ⟨false, 0, 0, 0⟩
def zAd : Ad := ⟨false, 0, 0, by decide⟩
theorem zPf_ok : zPf.Ok := by unfold zPf Pf.Ok; decide
def noOp : Opd := ⟨0, zPf, zAd, ⟨#[]⟩, 0, 0, zPf_ok⟩
/-- An op that has what its kind names, and nothing else. -/
def nmd (o : Opd) : Opd := ⟨o.k, if o.k = 1 then o.p else zPf, if o.k = 2 then o.a else zAd, if o.k = 3 ∨ o.k = 4 then o.who else ⟨#[]⟩, if o.k = 3 then o.pof else 0, if o.k = 3 ∨ o.k = 5 then o.n else 0, by split; exact o.pok; exact zPf_ok⟩
def eqO (x y : Opd) : Bool := x.k == y.k && (x.p.v == y.p.v && (x.p.hi == y.p.hi && (x.p.lo == y.p.lo && (x.p.b == y.p.b && (x.a.v == y.a.v && (x.a.hi == y.a.hi && (x.a.lo == y.a.lo && (x.who.toList == y.who.toList && (x.pof == y.pof && x.n == y.n)))))))))
theorem text_eq' (a b : ByteArray) : (a.toList == b.toList) = decide (a = b) := by
  by_cases h : a = b
  · subst h; simp
  · rw [decide_eq_false h]
    apply Bool.eq_false_iff.2
    intro e
    apply h
    have e' : a.toList = b.toList := by simpa using e
    rw [ByteArray.toList_eq, ByteArray.toList_eq] at e'
    cases a; cases b; simpa using e'
theorem eqO_iff (x y : Opd) : eqO x y = true ↔ x = y := by
  unfold eqO
  rw [text_eq']
  simp only [Bool.and_eq_true, beq_iff_eq, decide_eq_true_eq]
  constructor
  · rintro ⟨a, b, c, d, e, f, g, h, i, j, k⟩
    exact Opd.same a (by cases hx : x.p; cases hy : y.p; rw [hx, hy] at b c d e; simp at b c d e; subst b; subst c; subst d; subst e; rfl) (Ad.same f g h) i j k
  · rintro rfl; exact ⟨rfl, rfl, rfl, rfl, rfl, rfl, rfl, rfl, rfl, rfl, rfl⟩
set_option maxHeartbeats 8000000 in
theorem neq_op (w : World) (x y : Opd) : (binOp .neq 42 (.agg #[.int .i64 x.k, .bool x.p.v, .int .u64 x.p.hi, .int .u64 x.p.lo, .int .i64 x.p.b, .bool x.a.v, .int .u64 x.a.hi, .int .u64 x.a.lo, .string x.who, .int .i64 x.pof, .int .i64 x.n]) (.agg #[.int .i64 y.k, .bool y.p.v, .int .u64 y.p.hi, .int .u64 y.p.lo, .int .i64 y.p.b, .bool y.a.v, .int .u64 y.a.hi, .int .u64 y.a.lo, .string y.who, .int .i64 y.pof, .int .i64 y.n])).run Try.prog w = .ok (.bool (!eqO x y)) w := by
  unfold eqO
  generalize x.k = x0
  generalize x.p.v = x1
  generalize x.p.hi = x2
  generalize x.p.lo = x3
  generalize x.p.b = x4
  generalize x.a.v = x5
  generalize x.a.hi = x6
  generalize x.a.lo = x7
  generalize x.who = x8
  generalize x.pof = x9
  generalize x.n = x10
  generalize y.k = y0
  generalize y.p.v = y1
  generalize y.p.hi = y2
  generalize y.p.lo = y3
  generalize y.p.b = y4
  generalize y.a.v = y5
  generalize y.a.hi = y6
  generalize y.a.lo = y7
  generalize y.who = y8
  generalize y.pof = y9
  generalize y.n = y10
  cases h0 : x0 == y0
  · simp [go_sem, h0]
  cases h1 : x1 == y1
  · simp [go_sem, h0, h1]
  cases h2 : x2 == y2
  · simp [go_sem, h0, h1, h2]
  cases h3 : x3 == y3
  · simp [go_sem, h0, h1, h2, h3]
  cases h4 : x4 == y4
  · simp [go_sem, h0, h1, h2, h3, h4]
  cases h5 : x5 == y5
  · simp [go_sem, h0, h1, h2, h3, h4, h5]
  cases h6 : x6 == y6
  · simp [go_sem, h0, h1, h2, h3, h4, h5, h6]
  cases h7 : x7 == y7
  · simp [go_sem, h0, h1, h2, h3, h4, h5, h6, h7]
  cases h8 : x8.toList == y8.toList
  · simp [go_sem, h0, h1, h2, h3, h4, h5, h6, h7, h8]
  cases h9 : x9 == y9
  · simp [go_sem, h0, h1, h2, h3, h4, h5, h6, h7, h8, h9]
  cases h10 : x10 == y10 <;> simp [go_sem, h0, h1, h2, h3, h4, h5, h6, h7, h8, h9, h10]

/-- A number that must be from a to b. -/
def rngE (n a b : Int) : Int := if n < a ∨ b < n then 3 else 0
set_option maxHeartbeats 4000000 in
theorem sranged_any (n a b : Int) (w : World) : Calls Try.prog 35 #[.int .i64 n, .int .i64 a, .int .i64 b] w fun e w' => e = .returned (.int .i64 (rngE n a b)) ∧ w' = w := by
  unfold rngE
  by_cases h0 : n < a
  · rw [if_pos (.inl h0)]
    go_enter Try.func35, Try.ntmps35
    go_wp2
    go_ret
    exact ⟨rfl, rfl⟩
  · have d0 : decide (n < a) = false := decide_eq_false h0
    by_cases h1 : b < n
    · rw [if_pos (.inr h1)]
      go_enter Try.func35, Try.ntmps35
      go_wp2
      go_ret
      exact ⟨rfl, rfl⟩
    · have d1 : decide (b < n) = false := decide_eq_false h1
      rw [if_neg (by omega)]
      go_enter Try.func35, Try.ntmps35
      go_wp2
      go_ret
      exact ⟨rfl, rfl⟩
end Go.Proofs.Ytclnfkohlklbpaa
