/- fence.outside, keeper.lookLock. -/
import Derived.Test.YtjainfehlbfiaaaLgC
set_option linter.unusedVariables false
set_option linter.unusedSimpArgs false
namespace Go.Proofs.Ytjainfehlbfiaaa
open Go.RowKit

/-- Outside of what may stand there: from 0 to the most. -/
def outB (n m : Int) : Bool := decide (n < 0) || decide (m < n)
theorem outB_false {n m : Int} : outB n m = false ↔ 0 ≤ n ∧ n ≤ m := by unfold outB; simp
theorem outside_any (n m : Int) (w : World) : Calls Try.prog 13 #[.int .i64 n, .int .i64 m] w fun e w' => e = .returned (.bool (outB n m)) ∧ w' = w := by
  unfold outB
  by_cases h0 : n < 0
  · have d0 : decide (n < 0) = true := decide_eq_true h0
    rw [d0]
    go_enter Try.func13, Try.ntmps13
    go_wp2
    go_ret
    exact ⟨rfl, rfl⟩
  · have d0 : decide (n < 0) = false := decide_eq_false h0
    rw [d0]
    go_enter Try.func13, Try.ntmps13
    go_wp2
    go_ret
    exact ⟨rfl, rfl⟩
/-- A keeper in memory. -/
def KpAt (w : World) (kb : Nat) (ep h u : Int) (lv : Value) : Prop := w.heap[kb]? = some (.cells #[.int .i64 ep, .int .i64 h, .int .i64 u, lv] 47 (0, 0))
theorem KpAt.lt {w : World} {kb : Nat} {ep h u : Int} {lv : Value} (g : KpAt w kb ep h u lv) : kb < w.heap.size := (Array.getElem?_eq_some_iff.1 g).1
theorem KpAt.cells {w : World} {kb : Nat} {ep h u : Int} {lv : Value} (g : KpAt w kb ep h u lv) : (w.cell? ⟨kb, 0, none⟩ = some (.int .i64 ep) ∧ w.cell? ⟨kb, 1, none⟩ = some (.int .i64 h) ∧ w.cell? ⟨kb, 2, none⟩ = some (.int .i64 u) ∧ w.cell? ⟨kb, 3, none⟩ = some lv) ∧ (w.frozen? ⟨kb, 0, none⟩ = false ∧ w.frozen? ⟨kb, 1, none⟩ = false ∧ w.frozen? ⟨kb, 2, none⟩ = false ∧ w.frozen? ⟨kb, 3, none⟩ = false) := by
  unfold KpAt at g
  refine ⟨⟨?_, ?_, ?_, ?_⟩, ?_, ?_, ?_, ?_⟩ <;> simp [World.cell?, World.frozen?, g]
theorem KpAt.below {w w' : World} {kb : Nat} {ep h u : Int} {lv : Value} (g : KpAt w kb ep h u lv) (hb : Below w.heap.size w w') : KpAt w' kb ep h u lv := (hb.block kb g.lt).trans g
theorem KpAt.new (W : World) (ep h u : Int) (lv : Value) : KpAt (W.alloc (.cells #[.int .i64 ep, .int .i64 h, .int .i64 u, lv] 47)) W.heap.size ep h u lv := heap_alloc_new W _

/-- What is wrong with an epoch and a lock. -/
def lockE (ep h u : Int) : Int := if (outB ep 999 || outB h 2 || outB u 10009) = true then 3 else if (((h == 0) != (ep == 0)) || ((h == 0) && (u != 0))) = true then 4 else 0
set_option maxHeartbeats 8000000 in
theorem lookLock_any (kb : Nat) (ep h u : Int) (lv : Value) (w : World) (hk : KpAt w kb ep h u lv) : Calls Try.prog 22 #[.pointer (some ⟨kb, 0, none⟩)] w fun e w' => e = .returned (.int .i64 (lockE ep h u)) ∧ w' = w := by
  obtain ⟨⟨c0, c1, c2, c3⟩, _⟩ := hk.cells
  unfold lockE
  clear hk
  cases o1 : outB ep 999
  · cases o2 : outB h 2
    · cases o3 : outB u 10009
      · rw [if_neg (by decide)]
        cases q1 : (h == 0) <;> cases q2 : (ep == 0) <;> cases q3 : (u != 0)
        all_goals
          first | rw [if_pos (by decide)] | rw [if_neg (by decide)]
          go_enter Try.func22, Try.ntmps22
          go_wp2_with (go_at_call 13; refine (outside_any _ _ _).mono ?_; rintro e w' ⟨rfl, rfl⟩)
          go_ret
          exact ⟨rfl, rfl⟩
      · rw [if_pos (by decide)]
        go_enter Try.func22, Try.ntmps22
        go_wp2_with (go_at_call 13; refine (outside_any _ _ _).mono ?_; rintro e w' ⟨rfl, rfl⟩)
        go_ret
        exact ⟨rfl, rfl⟩
    · rw [if_pos (by simp)]
      go_enter Try.func22, Try.ntmps22
      go_wp2_with (go_at_call 13; refine (outside_any _ _ _).mono ?_; rintro e w' ⟨rfl, rfl⟩)
      go_ret
      exact ⟨rfl, rfl⟩
  · rw [if_pos (by simp)]
    go_enter Try.func22, Try.ntmps22
    go_wp2_with (go_at_call 13; refine (outside_any _ _ _).mono ?_; rintro e w' ⟨rfl, rfl⟩)
    go_ret
    exact ⟨rfl, rfl⟩
end Go.Proofs.Ytjainfehlbfiaaa
