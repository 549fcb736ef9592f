/- order.less, order.Compare, order.Within: where prefixes and addresses stand. -/
import Derived.Test.YtclnfkohlklbpaaPfQ
import Derived.Test.YtclnfkohlklbpaaH3
set_option linter.unusedVariables false
set_option linter.unusedSimpArgs false
namespace Go.Proofs.Ytclnfkohlklbpaa
open Go.RowKit

theorem oless_any (v u : Bool) (xh xl yh yl : Int) (w : World) (h0 : 0 ≤ xh) (h1 : 0 ≤ xl) (h2 : 0 ≤ yh) (h3 : 0 ≤ yl) :
    Calls Try.prog 40 #[.agg #[.bool v, .int .u64 xh, .int .u64 xl], .agg #[.bool u, .int .u64 yh, .int .u64 yl]] w fun e w' =>
      e = .returned (.bool (lessB v xh xl u yh yl)) ∧ Below w.heap.size w w' := by
  have hL : Hid (∀ w : World, Calls Try.prog 44 #[.agg #[.bool v, .int .u64 xh, .int .u64 xl], .agg #[.bool u, .int .u64 yh, .int .u64 yl]] w fun e w' =>
      e = .returned (.tuple #[.bool (lessB v xh xl u yh yl), .int .i64 (lessE v xh xl u yh yl)]) ∧ Below w.heap.size w w') := fun w => less_any v u xh xl yh yl w h0 h1 h2 h3
  generalize lessB v xh xl u yh yl = r at *
  generalize lessE v xh xl u yh yl = r' at *
  clear h0 h1 h2 h3
  go_enter Try.func40, Try.ntmps40
  go_wp2_with fail
  refine (hL.out _).mono ?_
  rintro e w2 ⟨rfl, hb⟩
  go_wp2
  go_ret
  exact ⟨rfl, btr (bal (bal (Below.refl _ _) _) _) hb⟩

def cmpN (x y : Int) : Int := if x < y then -1 else if y < x then 1 else 0

/-- Which of two prefixes rises ahead of the other one? -/
def cmpP (v : Bool) (hi lo b : Int) (u : Bool) (yi yo c : Int) : Int := if lessB v hi lo u yi yo = true then -1 else if lessB u yi yo v hi lo = true then 1 else cmpN b c

/-- Has a prefix an address (both right)? -/
def inB (v : Bool) (xh xl : Int) (u : Bool) (hi lo b : Int) : Bool := !(lessB v xh xl u hi lo) && !(lessB u (laH u hi b) (laL u lo b) v xh xl)

set_option maxHeartbeats 8000000 in
set_option maxRecDepth 100000 in
theorem within_any (v : Bool) (xh xl : Int) (u : Bool) (hi lo b : Int) (w : World) (h0 : 0 ≤ xh) (h1 : 0 ≤ xl) (i0 : 0 ≤ hi) (i1 : hi < 18446744073709551616) (i2 : 0 ≤ lo) (i3 : lo < 18446744073709551616) (c0 : pchk u hi lo b = 0) :
    Calls Try.prog 39 #[.agg #[.bool v, .int .u64 xh, .int .u64 xl], .agg #[.bool u, .int .u64 hi, .int .u64 lo, .int .i64 b]] w fun e w' =>
      e = .returned (.bool (inB v xh xl u hi lo b)) ∧ Below w.heap.size w w' := by
  have hE : Hid (∀ w : World, Calls Try.prog 43 #[.agg #[.bool u, .int .u64 hi, .int .u64 lo, .int .i64 b]] w fun e w' => e = .returned (.tuple #[.agg #[.bool u, .int .u64 hi, .int .u64 lo], .agg #[.bool u, .int .u64 (laH u hi b), .int .u64 (laL u lo b)], .int .i64 0]) ∧ Below w.heap.size w w') := fun w => ends_ok u hi lo b w i0 i1 i2 i3 c0
  have hL : Hid (∀ (v u : Bool) (xh xl yh yl : Int) (w : World), (0 ≤ xh ∧ 0 ≤ xl) ∧ 0 ≤ yh ∧ 0 ≤ yl → Calls Try.prog 40 #[.agg #[.bool v, .int .u64 xh, .int .u64 xl], .agg #[.bool u, .int .u64 yh, .int .u64 yl]] w fun e w' =>
      e = .returned (.bool (lessB v xh xl u yh yl)) ∧ Below w.heap.size w w') := fun v u xh xl yh yl w h => oless_any v u xh xl yh yl w h.1.1 h.1.2 h.2.1 h.2.2
  have A1 : Hid (0 ≤ laH u hi b) := (laH_lt i0 i1).1
  have A2 : Hid (0 ≤ laL u lo b) := (laL_lt i2 i3).1
  have A3 : Hid (0 ≤ xh ∧ 0 ≤ xl) := ⟨h0, h1⟩
  have A4 : Hid (0 ≤ hi ∧ 0 ≤ lo) := ⟨i0, i2⟩
  unfold inB
  generalize laH u hi b = r1 at *
  generalize laL u lo b = r2 at *
  have A5 : Hid (0 ≤ r1 ∧ 0 ≤ r2) := ⟨A1.out, A2.out⟩
  clear h0 h1 i0 i1 i2 i3 A1 A2 c0
  have P0 := (Has3.new w (.bool v) (.int .u64 xh) (.int .u64 xl) 38).alloc (.cells #[.bool u, .int .u64 hi, .int .u64 lo, .int .i64 b] 40)
  have B1 : Below w.heap.size w ((w.alloc (.cells #[.bool v, .int .u64 xh, .int .u64 xl] 38)).alloc (.cells #[.bool u, .int .u64 hi, .int .u64 lo, .int .i64 b] 40)) := bal (bal (Below.refl _ _) _) _
  have HP := Lib.hid P0
  have HB := Lib.hid B1
  clear P0 B1
  cases hx : lessB v xh xl u hi lo
  all_goals
    go_enter Try.func39, Try.ntmps39
    go_wp2_with fail
    refine (hE.out _).mono ?_
    rintro e w2 ⟨rfl, hb⟩
    replace HP := Lib.hid (HP.out.below hb)
    replace HB := Lib.hid (btr HB.out hb)
    clear hb
    have P2 := Has3.new (w2.alloc (.cells #[.bool u, .int .u64 hi, .int .u64 lo] 38)) (.bool u) (.int .u64 r1) (.int .u64 r2) 38
    rw [show (w2.alloc (.cells #[.bool u, .int .u64 hi, .int .u64 lo] 38)).heap.size = w2.heap.size + 1 by simp] at P2
    have HQ := Lib.hid P2
    clear P2
    obtain ⟨a0, a1, a2, a3⟩ := HP.out
    go_wp2_with fail
    refine (hL.out _ _ _ _ _ _ _ ⟨A3.out, A4.out⟩).mono ?_
    rintro e w3 ⟨rfl, hb⟩
    clear a0 a1 a2 a3
    obtain ⟨a0, a1, a2, a3⟩ := ((HP.out.alloc _).alloc _).below hb
    obtain ⟨q0, q1, q2, q3⟩ := HQ.out.below hb
    replace HB := Lib.hid (btr (bal (bal HB.out _) _) hb)
    clear hb HP HQ
    rw [hx]
    go_wp2_with (go_at_call 40; refine (hL.out _ _ _ _ _ _ _ ⟨A5.out, A3.out⟩).mono ?_; rintro e w4 ⟨rfl, hb4⟩)
    go_ret
    first
      | exact ⟨rfl, btr HB.out hb4⟩
      | exact ⟨rfl, HB.out⟩
end Go.Proofs.Ytclnfkohlklbpaa
