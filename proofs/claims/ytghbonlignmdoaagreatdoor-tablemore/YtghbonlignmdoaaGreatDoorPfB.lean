/- prefix.Check: whatever prefix it is handed. -/
import Derived.Test.YtghbonlignmdoaaGreatDoorPfA
set_option linter.unusedVariables false
set_option linter.unusedSimpArgs false
namespace Go.Proofs.YtghbonlignmdoaaGreatDoor
open Go.RowKit

/-- What Check says of a prefix. -/
def pchk (v : Bool) (hi lo b : Int) : Int :=
  if chk v hi lo = 0 then (if b < 0 ∨ wid v < b then 3 else if eqA v (fsH v hi b) (fsL v lo b) v hi lo = true then 0 else 4) else 3

theorem pchk_cases (v : Bool) (hi lo b : Int) : (pchk v hi lo b = 0 ∧ chk v hi lo = 0 ∧ 0 ≤ b ∧ b ≤ wid v ∧ fsH v hi b = hi ∧ fsL v lo b = lo) ∨ pchk v hi lo b = 3 ∨ pchk v hi lo b = 4 := by
  unfold pchk
  split
  · rename_i h
    split
    · exact .inr (.inl rfl)
    · split
      · rename_i h2 h3
        simp [eqA] at h3
        exact .inl ⟨rfl, h, by omega, by omega, h3.1, h3.2⟩
      · exact .inr (.inr rfl)
  · exact .inr (.inl rfl)

theorem keep4 {w W : World} {p : Nat} {v : Bool} {hi lo b : Int} {o : Obj}
    (h : (W.cell? ⟨p, 0, none⟩ = some (.bool v) ∧ W.cell? ⟨p, 1, none⟩ = some (.int .u64 hi) ∧ W.cell? ⟨p, 2, none⟩ = some (.int .u64 lo) ∧ W.cell? ⟨p, 3, none⟩ = some (.int .i64 b) ∧ p < W.heap.size) ∧ Below w.heap.size w W) :
    ((W.alloc o).cell? ⟨p, 0, none⟩ = some (.bool v) ∧ (W.alloc o).cell? ⟨p, 1, none⟩ = some (.int .u64 hi) ∧ (W.alloc o).cell? ⟨p, 2, none⟩ = some (.int .u64 lo) ∧ (W.alloc o).cell? ⟨p, 3, none⟩ = some (.int .i64 b) ∧ p < (W.alloc o).heap.size) ∧ Below w.heap.size w (W.alloc o) :=
  ⟨Has4.alloc h.1 o, bal h.2 o⟩
theorem keep4d {w W : World} {p : Nat} {v : Bool} {hi lo b : Int}
    (h : (W.cell? ⟨p, 0, none⟩ = some (.bool v) ∧ W.cell? ⟨p, 1, none⟩ = some (.int .u64 hi) ∧ W.cell? ⟨p, 2, none⟩ = some (.int .u64 lo) ∧ W.cell? ⟨p, 3, none⟩ = some (.int .i64 b) ∧ p < W.heap.size) ∧ Below w.heap.size w W) :
    (W.drew.cell? ⟨p, 0, none⟩ = some (.bool v) ∧ W.drew.cell? ⟨p, 1, none⟩ = some (.int .u64 hi) ∧ W.drew.cell? ⟨p, 2, none⟩ = some (.int .u64 lo) ∧ W.drew.cell? ⟨p, 3, none⟩ = some (.int .i64 b) ∧ p < W.drew.heap.size) ∧ Below w.heap.size w W.drew :=
  ⟨Has4.drew h.1, h.2.drew⟩
theorem keep4b {w W W' : World} {p : Nat} {v : Bool} {hi lo b : Int}
    (h : (W.cell? ⟨p, 0, none⟩ = some (.bool v) ∧ W.cell? ⟨p, 1, none⟩ = some (.int .u64 hi) ∧ W.cell? ⟨p, 2, none⟩ = some (.int .u64 lo) ∧ W.cell? ⟨p, 3, none⟩ = some (.int .i64 b) ∧ p < W.heap.size) ∧ Below w.heap.size w W)
    (hb : Below W.heap.size W W') :
    (W'.cell? ⟨p, 0, none⟩ = some (.bool v) ∧ W'.cell? ⟨p, 1, none⟩ = some (.int .u64 hi) ∧ W'.cell? ⟨p, 2, none⟩ = some (.int .u64 lo) ∧ W'.cell? ⟨p, 3, none⟩ = some (.int .i64 b) ∧ p < W'.heap.size) ∧ Below w.heap.size w W' :=
  ⟨Has4.below h.1 hb, btr h.2 hb⟩

set_option maxHeartbeats 4000000 in
set_option maxRecDepth 100000 in
theorem pcheck_any (v : Bool) (hi lo b : Int) (w : World) (i0 : 0 ≤ hi) (i1 : hi < 18446744073709551616) (l0 : 0 ≤ lo) (l1 : lo < 18446744073709551616) :
    Calls Tryz.prog 21 #[.agg #[.bool v, .int .u64 hi, .int .u64 lo, .int .i64 b]] w fun e w' => e = .returned (.int .i64 (pchk v hi lo b)) ∧ Below w.heap.size w w' := by
  have hC : Hid (∀ w : World, Calls Tryz.prog 27 #[.agg #[.bool v, .int .u64 hi, .int .u64 lo]] w fun e w' => e = .returned (.int .i64 (chk v hi lo)) ∧ ∃ c, w' = w.alloc (.cells c 25)) := fun w => check_any v hi lo w i0 l0
  have hW : Hid (∀ w : World, Calls Tryz.prog 34 #[.agg #[.bool v, .int .u64 hi, .int .u64 lo]] w fun e w' => e = .returned (.int .i64 (wid v)) ∧ ∃ c, w' = w.alloc (.cells c 25)) := fun w => width_any v hi lo w
  have B0 : Hid (Below w.heap.size w (w.alloc (.cells #[.bool v, .int .u64 hi, .int .u64 lo, .int .i64 b] 37))) := bal (Below.refl _ _) _
  have P0 : Hid (Has4 (w.alloc (.cells #[.bool v, .int .u64 hi, .int .u64 lo, .int .i64 b] 37)) w.heap.size v hi lo b) := Has4.new _ _ _ _ _ _
  rcases chk_cases v hi lo with ⟨c0, _⟩ | c0
  · rw [c0] at hC
    by_cases hb0 : b < 0
    · have e : pchk v hi lo b = 3 := by unfold pchk; rw [if_pos c0, if_pos (.inl hb0)]
      rw [e]
      clear e c0
      go_enter Tryz.func21, Tryz.ntmps21
      go_wp2_with fail
      refine (hC.out _).mono ?_
      rintro e w1 ⟨rfl, c, rfl⟩
      go_wp2_with fail
      go_region
      go_wp2
      go_ret
      exact ⟨rfl, (bal B0.out _).drew⟩
    · have hb0d : decide (b < 0) = false := decide_eq_false hb0
      by_cases hb1 : wid v < b
      · have e : pchk v hi lo b = 3 := by unfold pchk; rw [if_pos c0, if_pos (.inr hb1)]
        rw [e]
        clear e c0
        generalize wid v = d at *
        go_enter Tryz.func21, Tryz.ntmps21
        go_wp2_with fail
        refine (hC.out _).mono ?_
        rintro e w1 ⟨rfl, c, rfl⟩
        go_wp2_with fail
        go_region_held3 (fun w' => (w'.cell? ⟨w.heap.size, 0, none⟩ = some (.bool v) ∧ w'.cell? ⟨w.heap.size, 1, none⟩ = some (.int .u64 hi) ∧ w'.cell? ⟨w.heap.size, 2, none⟩ = some (.int .u64 lo) ∧ w'.cell? ⟨w.heap.size, 3, none⟩ = some (.int .i64 b) ∧ w.heap.size < w'.heap.size) ∧ Below w.heap.size w w')
          (first | exact ⟨(P0.out.alloc _).drew, (bal B0.out _).drew⟩ | exact keep4 (by assumption) | exact keep4b (by assumption) (by assumption))
          ((go_at_call 34; refine (hW.out _).mono ?_; rintro e w' ⟨rfl, c, rfl⟩))
        go_wp2
        go_ret
        exact ⟨rfl, And.right (by assumption)⟩
      · have hF : Hid (∀ w : World, Calls Tryz.prog 26 #[.agg #[.bool v, .int .u64 hi, .int .u64 lo], .int .i64 b] w fun e w' => e = .returned (.agg #[.bool v, .int .u64 (fsH v hi b), .int .u64 (fsL v lo b)]) ∧ Below w.heap.size w w') :=
          fun w => (first_any v hi lo b w (by omega) (by omega) i0 i1 l0 l1).mono fun e w' h => ⟨h.1, below4 h.2⟩
        have e : pchk v hi lo b = if eqA v (fsH v hi b) (fsL v lo b) v hi lo = true then 0 else 4 := by unfold pchk; rw [if_pos c0, if_neg (by omega)]
        have hq := neq_addr v (fsH v hi b) (fsL v lo b) v hi lo
        rw [e]
        have hb1' : b ≤ wid v := by omega
        clear e c0 hb1
        generalize wid v = d at *
        generalize fsH v hi b = r1 at *
        generalize fsL v lo b = r2 at *
        cases hE : eqA v r1 r2 v hi lo
        all_goals
          rw [hE] at hq
          go_enter Tryz.func21, Tryz.ntmps21
          go_wp2_with fail
          refine (hC.out _).mono ?_
          rintro e w1 ⟨rfl, c, rfl⟩
          go_wp2_with fail
          go_region_held3 (fun w' => (w'.cell? ⟨w.heap.size, 0, none⟩ = some (.bool v) ∧ w'.cell? ⟨w.heap.size, 1, none⟩ = some (.int .u64 hi) ∧ w'.cell? ⟨w.heap.size, 2, none⟩ = some (.int .u64 lo) ∧ w'.cell? ⟨w.heap.size, 3, none⟩ = some (.int .i64 b) ∧ w.heap.size < w'.heap.size) ∧ Below w.heap.size w w')
            (first | exact ⟨(P0.out.alloc _).drew, (bal B0.out _).drew⟩ | exact keep4 (by assumption) | exact keep4b (by assumption) (by assumption))
            ((go_at_call 34; refine (hW.out _).mono ?_; rintro e w' ⟨rfl, c, rfl⟩))
          go_wp2_with fail
          go_region_held3 (fun w' => (w'.cell? ⟨w.heap.size, 0, none⟩ = some (.bool v) ∧ w'.cell? ⟨w.heap.size, 1, none⟩ = some (.int .u64 hi) ∧ w'.cell? ⟨w.heap.size, 2, none⟩ = some (.int .u64 lo) ∧ w'.cell? ⟨w.heap.size, 3, none⟩ = some (.int .i64 b) ∧ w.heap.size < w'.heap.size) ∧ Below w.heap.size w w')
            (first | exact keep4d (by assumption) | exact keep4 (by assumption) | exact keep4b (by assumption) (by assumption))
            ((go_at_call 26; refine (hF.out _).mono ?_; rintro e w' ⟨rfl, hb⟩))
          go_wp2
          go_ret
          exact ⟨rfl, And.right (by assumption)⟩
  · rw [c0] at hC
    have e : pchk v hi lo b = 3 := by unfold pchk; rw [if_neg (by omega)]
    rw [e]
    clear e c0
    go_enter Tryz.func21, Tryz.ntmps21
    go_wp2_with fail
    refine (hC.out _).mono ?_
    rintro e w1 ⟨rfl, c, rfl⟩
    go_wp2
    go_ret
    exact ⟨rfl, bal B0.out _⟩
end Go.Proofs.YtghbonlignmdoaaGreatDoor
