/- The walk of addr.Next: what it returns, whatever address it is handed. -/
import Derived.Test.YtojdlpiogbjfcaaGreatDoorLess
import Derived.Shelf.Spec.BitsCarry
namespace Go.Proofs.YtojdlpiogbjfcaaGreatDoor
open Go.RowKit

def isLast (v : Bool) (hi lo : Int) : Bool := eqA v hi lo v (mxH v) (mxL v)
def nxH (v : Bool) (hi lo : Int) : Int := if chk v hi lo = 0 ∧ isLast v hi lo = false then (hi + (lo + 1) / 18446744073709551616) else 0
def nxL (v : Bool) (hi lo : Int) : Int := if chk v hi lo = 0 ∧ isLast v hi lo = false then (lo + 1) % 18446744073709551616 else 0
def nxV (v : Bool) (hi lo : Int) : Bool := if chk v hi lo = 0 ∧ isLast v hi lo = false then v else false
def nxB (v : Bool) (hi lo : Int) : Bool := if chk v hi lo = 0 ∧ isLast v hi lo = false then true else false

theorem not_last {v : Bool} {hi lo : Int} (h0 : 0 ≤ hi) (l0 : 0 ≤ lo) (h1 : hi < 18446744073709551616) (l1 : lo < 18446744073709551616) (hc : v = true ∨ (hi = 0 ∧ lo ≤ 4294967295))
    (hl : eqA v hi lo v (mxH v) (mxL v) = false) : hi + (lo + 1) / 18446744073709551616 < 18446744073709551616 := by
  cases v
  · simp at hc; omega
  · simp [eqA, mxH, mxL] at hl; omega

end Go.Proofs.YtojdlpiogbjfcaaGreatDoor
