/- The walks of addr.Check, addr.Less, addr.Next: what each call returns, whatever addresses it is handed. -/
import Derived.Test.YtollaiabcnmebaaGreatDoorRows
import Derived.WalkKit
import Derived.WalkSpells
import Derived.Deep.RegionHeld3
import Derived.Deep.QuietTactic
import Derived.BigQuiet
set_option linter.unusedVariables false
set_option linter.unusedSimpArgs false
namespace Go.Proofs.YtollaiabcnmebaaGreatDoor
open Go.RowKit

theorem bcell {W w1 : World} (hb : Below W.heap.size W w1) : (∀ b o, b < W.heap.size → w1.cell? ⟨b, o, none⟩ = W.cell? ⟨b, o, none⟩) ∧ (∀ b o, b < W.heap.size → w1.frozen? ⟨b, o, none⟩ = W.frozen? ⟨b, o, none⟩) :=
  ⟨fun b o h => hb.cell (p := ⟨b, o, none⟩) h, fun b o h => hb.frozen (p := ⟨b, o, none⟩) h⟩

theorem bal {a w : World} (h : Below a.heap.size a w) (o : Obj) : Below a.heap.size a (w.alloc o) := h.alloc h.size o
theorem btr {a w w' : World} (h : Below a.heap.size a w) (k : Below w.heap.size w w') : Below a.heap.size a w' := h.trans (k.mono h.size)
theorem bse {a w : World} (h : Below a.heap.size a w) {p : Addr} (hp : a.heap.size ≤ p.block) (u : Value) : Below a.heap.size a (w.setCell p u) := h.setCell hp u

def chk (v : Bool) (hi lo : Int) : Int := if v = false ∧ (hi ≠ 0 ∨ 4294967295 < lo) then 3 else 0

theorem check_any (v : Bool) (hi lo : Int) (w : World) (h0 : 0 ≤ hi) (l0 : 0 ≤ lo) :
    Calls Tryz.prog 40 #[.agg #[.bool v, .int .u64 hi, .int .u64 lo]] w fun e w' => e = .returned (.int .i64 (chk v hi lo)) ∧ ∃ c, w' = w.alloc (.cells c 24) := by
  cases v
  · by_cases h : hi = 0
    · have hb : (hi != 0) = false := by simp [h]
      by_cases l : 4294967295 < lo
      all_goals
        go_enter Tryz.func40, Tryz.ntmps40
        go_wp2
        go_ret
        exact ⟨by simp [chk, h, l], _, rfl⟩
    · have hb : (hi != 0) = true := by simp [h]
      go_enter Tryz.func40, Tryz.ntmps40
      go_wp2
      go_ret
      exact ⟨by simp [chk, h], _, rfl⟩
  · go_enter Tryz.func40, Tryz.ntmps40
    go_wp2
    go_ret
    exact ⟨by simp [chk], _, rfl⟩

def lsB (xh xl yh yl : Int) : Bool := decide (xh < yh) || (decide (xh = yh) && decide (xl < yl))

def lessE (v : Bool) (xh xl : Int) (u : Bool) (yh yl : Int) : Int := if chk v xh xl = 0 then chk u yh yl else chk v xh xl
def lessB (v : Bool) (xh xl : Int) (u : Bool) (yh yl : Int) : Bool := if lessE v xh xl u yh yl = 0 then (if v = u then lsB xh xl yh yl else u) else false

theorem chk_cases (v : Bool) (hi lo : Int) : (chk v hi lo = 0 ∧ (v = true ∨ (hi = 0 ∧ lo ≤ 4294967295))) ∨ chk v hi lo = 3 := by
  unfold chk; split
  · exact .inr rfl
  · rename_i h; refine .inl ⟨rfl, ?_⟩; cases v
    · right; simp at h; omega
    · exact .inl rfl

/-- Are two addresses the same? -/
def eqA (v : Bool) (xh xl : Int) (u : Bool) (yh yl : Int) : Bool := (v == u) && ((xh == yh) && (xl == yl))

theorem eql_addr (v : Bool) (xh xl : Int) (u : Bool) (yh yl : Int) (w : World) :
    (binOp .eql 24 (.agg #[.bool v, .int .u64 xh, .int .u64 xl]) (.agg #[.bool u, .int .u64 yh, .int .u64 yl])).run Tryz.prog w = .ok (.bool (eqA v xh xl u yh yl)) w := by
  unfold eqA
  cases h1 : v == u <;> cases h2 : xh == yh <;> cases h3 : xl == yl <;> simp [go_sem, h1, h2, h3]
theorem neq_addr (v : Bool) (xh xl : Int) (u : Bool) (yh yl : Int) (w : World) :
    (binOp .neq 24 (.agg #[.bool v, .int .u64 xh, .int .u64 xl]) (.agg #[.bool u, .int .u64 yh, .int .u64 yl])).run Tryz.prog w = .ok (.bool (!(eqA v xh xl u yh yl))) w := by
  unfold eqA
  cases h1 : v == u <;> cases h2 : xh == yh <;> cases h3 : xl == yl <;> simp [go_sem, h1, h2, h3]

def mxH (v : Bool) : Int := if v then 18446744073709551615 else 0
def mxL (v : Bool) : Int := if v then 18446744073709551615 else 4294967295
end Go.Proofs.YtollaiabcnmebaaGreatDoor
