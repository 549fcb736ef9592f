/- The walks of addr.Check, addr.Less, addr.Next: what each call returns, whatever addresses it is handed. -/
import Derived.Test.YtghbonlignmdoaaGreatDoorRows
import Derived.WalkKit
import Derived.WalkSpells
import Derived.Deep.RegionHeld3
import Derived.Deep.QuietTactic
import Derived.BigQuiet
set_option linter.unusedVariables false
set_option linter.unusedSimpArgs false
namespace Go.Proofs.YtghbonlignmdoaaGreatDoor
open Go.RowKit

theorem bcell {W w1 : World} (hb : Below W.heap.size W w1) : (∀ b o, b < W.heap.size → w1.cell? ⟨b, o, none⟩ = W.cell? ⟨b, o, none⟩) ∧ (∀ b o, b < W.heap.size → w1.frozen? ⟨b, o, none⟩ = W.frozen? ⟨b, o, none⟩) :=
  ⟨fun b o h => hb.cell (p := ⟨b, o, none⟩) h, fun b o h => hb.frozen (p := ⟨b, o, none⟩) h⟩

theorem bal {a w : World} (h : Below a.heap.size a w) (o : Obj) : Below a.heap.size a (w.alloc o) := h.alloc h.size o
theorem btr {a w w' : World} (h : Below a.heap.size a w) (k : Below w.heap.size w w') : Below a.heap.size a w' := h.trans (k.mono h.size)
theorem bse {a w : World} (h : Below a.heap.size a w) {p : Addr} (hp : a.heap.size ≤ p.block) (u : Value) : Below a.heap.size a (w.setCell p u) := h.setCell hp u

def chk (v : Bool) (hi lo : Int) : Int := if v = false ∧ (hi ≠ 0 ∨ 4294967295 < lo) then 3 else 0

theorem check_any (v : Bool) (hi lo : Int) (w : World) (h0 : 0 ≤ hi) (l0 : 0 ≤ lo) :
    Calls Tryz.prog 27 #[.agg #[.bool v, .int .u64 hi, .int .u64 lo]] w fun e w' => e = .returned (.int .i64 (chk v hi lo)) ∧ ∃ c, w' = w.alloc (.cells c 25) := by
  cases v
  · by_cases h : hi = 0
    · have hb : (hi != 0) = false := by simp [h]
      by_cases l : 4294967295 < lo
      all_goals
        go_enter Tryz.func27, Tryz.ntmps27
        go_wp2
        go_ret
        exact ⟨by simp [chk, h, l], _, rfl⟩
    · have hb : (hi != 0) = true := by simp [h]
      go_enter Tryz.func27, Tryz.ntmps27
      go_wp2
      go_ret
      exact ⟨by simp [chk, h], _, rfl⟩
  · go_enter Tryz.func27, Tryz.ntmps27
    go_wp2
    go_ret
    exact ⟨by simp [chk], _, rfl⟩

def lsB (xh xl yh yl : Int) : Bool := decide (xh < yh) || (decide (xh = yh) && decide (xl < yl))

theorem lit_any (v u : Bool) (xh xl yh yl : Int) (w : World) :
    Calls Tryz.prog 59 #[.agg #[.bool v, .int .u64 xh, .int .u64 xl], .agg #[.bool u, .int .u64 yh, .int .u64 yl]] w fun e w' => e = .returned (.bool (lsB xh xl yh yl)) ∧ Below w.heap.size w w' := by
  by_cases h : xh < yh
  · go_enter Tryz.func59, Tryz.ntmps59
    go_wp2
    go_ret
    exact ⟨by simp [lsB, h], ((Below.refl _ _).alloc (Nat.le_refl _) _).alloc (by simp) _⟩
  · have hd : decide (xh < yh) = false := by simp; omega
    by_cases e : xh = yh
    · subst e
      have hq : (xh == xh) = true := by simp
      by_cases l : xl < yl
      all_goals
        go_enter Tryz.func59, Tryz.ntmps59
        go_wp2
        go_ret
        exact ⟨by simp [lsB, l], ((Below.refl _ _).alloc (Nat.le_refl _) _).alloc (by simp) _⟩
    · have hq : (xh == yh) = false := by simp [e]
      go_enter Tryz.func59, Tryz.ntmps59
      go_wp2
      go_ret
      exact ⟨by simp [lsB, h, e], ((Below.refl _ _).alloc (Nat.le_refl _) _).alloc (by simp) _⟩

def lessE (v : Bool) (xh xl : Int) (u : Bool) (yh yl : Int) : Int := if chk v xh xl = 0 then chk u yh yl else chk v xh xl
def lessB (v : Bool) (xh xl : Int) (u : Bool) (yh yl : Int) : Bool := if lessE v xh xl u yh yl = 0 then (if v = u then lsB xh xl yh yl else u) else false

theorem chk_cases (v : Bool) (hi lo : Int) : (chk v hi lo = 0 ∧ (v = true ∨ (hi = 0 ∧ lo ≤ 4294967295))) ∨ chk v hi lo = 3 := by
  unfold chk; split
  · exact .inr rfl
  · rename_i h; refine .inl ⟨rfl, ?_⟩; cases v
    · right; simp at h; omega
    · exact .inl rfl

theorem less_any (v u : Bool) (xh xl yh yl : Int) (w : World) (h0 : 0 ≤ xh) (h1 : 0 ≤ xl) (h2 : 0 ≤ yh) (h3 : 0 ≤ yl) :
    Calls Tryz.prog 48 #[.agg #[.bool v, .int .u64 xh, .int .u64 xl], .agg #[.bool u, .int .u64 yh, .int .u64 yl]] w fun e w' =>
      e = .returned (.tuple #[.bool (lessB v xh xl u yh yl), .int .i64 (lessE v xh xl u yh yl)]) ∧ Below w.heap.size w w' := by
  rcases chk_cases v xh xl with ⟨c1, _⟩ | c1
  · rcases chk_cases u yh yl with ⟨c2, _⟩ | c2
    · have hE : lessE v xh xl u yh yl = 0 := by simp [lessE, c1, c2]
      have hB : lessB v xh xl u yh yl = if v = u then lsB xh xl yh yl else u := by simp [lessB, hE]
      have HE := hE; clear hE
      rw [HE, hB]; clear HE hB
      have C1 : Hid (chk v xh xl = 0) := c1
      have C2 : Hid (chk u yh yl = 0) := c2
      clear c1 c2
      by_cases hvu : v = u
      · subst hvu
        have hb : (v != v) = false := by simp
        go_enter Tryz.func48, Tryz.ntmps48
        go_wp2_with fail
        refine (check_any v xh xl _ h0 h1).mono ?_
        rintro e w' ⟨rfl, k1, rfl⟩
        rw [C1.out]
        go_wp2_with fail
        refine (check_any v yh yl _ h2 h3).mono ?_
        rintro e w' ⟨rfl, k2, rfl⟩
        rw [C2.out]
        go_wp2_with fail
        refine (lit_any v v xh xl yh yl _).mono ?_
        rintro e w' ⟨rfl, hB⟩
        go_wp2_with fail
        go_ret2
        refine ⟨by simp, ?_⟩
        exact btr (bal (bal (bal (bal (Below.refl _ _) _) _) _) _) hB
      · have hb : (!(v == u)) = true := by simp [hvu]
        go_enter Tryz.func48, Tryz.ntmps48
        go_wp2_with fail
        refine (check_any v xh xl _ h0 h1).mono ?_
        rintro e w' ⟨rfl, k1, rfl⟩
        rw [C1.out]
        go_wp2_with fail
        refine (check_any u yh yl _ h2 h3).mono ?_
        rintro e w' ⟨rfl, k2, rfl⟩
        rw [C2.out]
        go_wp2_with fail
        go_ret2
        refine ⟨by simp [hvu], ?_⟩
        exact bal (bal (bal (bal (Below.refl _ _) _) _) _) _
    · have hE : lessE v xh xl u yh yl = 3 := by simp [lessE, c1, c2]
      have hB : lessB v xh xl u yh yl = false := by simp [lessB, hE]
      rw [hE, hB]; clear hE hB
      have C1 : Hid (chk v xh xl = 0) := c1
      have C2 : Hid (chk u yh yl = 3) := c2
      clear c1 c2
      go_enter Tryz.func48, Tryz.ntmps48
      go_wp2_with fail
      refine (check_any v xh xl _ h0 h1).mono ?_
      rintro e w' ⟨rfl, k1, rfl⟩
      rw [C1.out]
      go_wp2_with fail
      refine (check_any u yh yl _ h2 h3).mono ?_
      rintro e w' ⟨rfl, k2, rfl⟩
      rw [C2.out]
      go_wp2_with fail
      go_ret2
      refine ⟨by simp, ?_⟩
      exact bal (bal (bal (bal (Below.refl _ _) _) _) _) _
  · have hE : lessE v xh xl u yh yl = 3 := by simp [lessE, c1]
    have hB : lessB v xh xl u yh yl = false := by simp [lessB, hE]
    rw [hE, hB]; clear hE hB
    have C1 : Hid (chk v xh xl = 3) := c1
    clear c1
    go_enter Tryz.func48, Tryz.ntmps48
    go_wp2_with fail
    refine (check_any v xh xl _ h0 h1).mono ?_
    rintro e w' ⟨rfl, k1, rfl⟩
    rw [C1.out]
    go_wp2_with fail
    go_ret2
    refine ⟨by simp, ?_⟩
    exact bal (bal (bal (Below.refl _ _) _) _) _

/-- Are two addresses the same? -/
def eqA (v : Bool) (xh xl : Int) (u : Bool) (yh yl : Int) : Bool := (v == u) && ((xh == yh) && (xl == yl))

theorem eql_addr (v : Bool) (xh xl : Int) (u : Bool) (yh yl : Int) (w : World) :
    (binOp .eql 25 (.agg #[.bool v, .int .u64 xh, .int .u64 xl]) (.agg #[.bool u, .int .u64 yh, .int .u64 yl])).run Tryz.prog w = .ok (.bool (eqA v xh xl u yh yl)) w := by
  unfold eqA
  cases h1 : v == u <;> cases h2 : xh == yh <;> cases h3 : xl == yl <;> simp [go_sem, h1, h2, h3]
theorem neq_addr (v : Bool) (xh xl : Int) (u : Bool) (yh yl : Int) (w : World) :
    (binOp .neq 25 (.agg #[.bool v, .int .u64 xh, .int .u64 xl]) (.agg #[.bool u, .int .u64 yh, .int .u64 yl])).run Tryz.prog w = .ok (.bool (!(eqA v xh xl u yh yl))) w := by
  unfold eqA
  cases h1 : v == u <;> cases h2 : xh == yh <;> cases h3 : xl == yl <;> simp [go_sem, h1, h2, h3]

def mxH (v : Bool) : Int := if v then 18446744073709551615 else 0
def mxL (v : Bool) : Int := if v then 18446744073709551615 else 4294967295
end Go.Proofs.YtghbonlignmdoaaGreatDoor
