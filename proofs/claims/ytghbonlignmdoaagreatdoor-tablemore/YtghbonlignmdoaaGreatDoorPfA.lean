/- prefix.width, prefix.rest, prefix.first, prefix.last, prefix.halves. -/
import Derived.Test.YtghbonlignmdoaaGreatDoorLess
import Derived.Test.YtghbonlignmdoaaGreatDoorPfN
set_option linter.unusedVariables false
set_option linter.unusedSimpArgs false
namespace Go.Proofs.YtghbonlignmdoaaGreatDoor
open Go.RowKit

def wid (v : Bool) : Int := if v then 128 else 32

theorem width_any (v : Bool) (hi lo : Int) (w : World) :
    Calls Tryz.prog 34 #[.agg #[.bool v, .int .u64 hi, .int .u64 lo]] w fun e w' => e = .returned (.int .i64 (wid v)) ∧ ∃ c, w' = w.alloc (.cells c 25) := by
  cases v
  all_goals
    go_enter Tryz.func34, Tryz.ntmps34
    go_wp2
    simp [bodyPost, results, Tryz.results34, go_sem, wid]
    exact ⟨_, rfl⟩

/-- So many bits, all set: of the lower half. -/
def mask (y : Int) : Int := 2 ^ (min y.toNat 64) - 1

set_option maxHeartbeats 4000000 in
set_option maxRecDepth 100000 in
theorem rest_any (v : Bool) (hi lo b : Int) (w : World) (h0 : 0 ≤ b) (h1 : b ≤ wid v) :
    Calls Tryz.prog 40 #[.agg #[.bool v, .int .u64 hi, .int .u64 lo], .int .i64 b] w fun e w' => e = .returned (.tuple #[.int .u64 (mask (wid v - b - 64)), .int .u64 (mask (wid v - b))]) ∧ ∃ c c', w' = ((w.alloc (.cells c 25)).alloc (.cells c' 25)).drew := by
  have hw : Hid (∀ w : World, Calls Tryz.prog 34 #[.agg #[.bool v, .int .u64 hi, .int .u64 lo]] w fun e w' => e = .returned (.int .i64 (wid v)) ∧ ∃ c, w' = w.alloc (.cells c 25)) := fun w => width_any v hi lo w
  have hv : wid v ≤ 128 := by unfold wid; split <;> omega
  generalize wid v = d at *
  go_enter Tryz.func40, Tryz.ntmps40
  go_wp2_with fail
  refine (hw.out _).mono ?_
  rintro e w1 ⟨rfl, c, rfl⟩
  go_wp2_with fail
  go_region
  go_wp2
  simp [bodyPost, results, Tryz.results40, go_sem]
  rw [show (max (d - b - 64) 0).toNat = min (d - b - 64).toNat 64 by omega, wrap_pow _ (Nat.min_le_right _ _), wrap_pow _ (Nat.min_le_right _ _)]
  exact ⟨⟨rfl, rfl⟩, _, _, rfl⟩

/-- The first bits of an address, the others 0: the two halves. -/
def fsH (v : Bool) (hi b : Int) : Int := cutI (min (wid v - b - 64).toNat 64) hi
def fsL (v : Bool) (lo b : Int) : Int := cutI (min (wid v - b).toNat 64) lo
def laH (v : Bool) (hi b : Int) : Int := fsH v hi b + mask (wid v - b - 64)
def laL (v : Bool) (lo b : Int) : Int := fsL v lo b + mask (wid v - b)

set_option maxHeartbeats 4000000 in
set_option maxRecDepth 100000 in
theorem first_any (v : Bool) (hi lo b : Int) (w : World) (h0 : 0 ≤ b) (h1 : b ≤ wid v) (i0 : 0 ≤ hi) (i1 : hi < 18446744073709551616) (l0 : 0 ≤ lo) (l1 : lo < 18446744073709551616) :
    Calls Tryz.prog 26 #[.agg #[.bool v, .int .u64 hi, .int .u64 lo], .int .i64 b] w fun e w' => e = .returned (.agg #[.bool v, .int .u64 (fsH v hi b), .int .u64 (fsL v lo b)]) ∧ ∃ o1 o2 o3 o4, w' = ((((w.alloc o1).alloc o2).alloc o3).alloc o4).drew := by
  have hr : Hid (∀ w : World, Calls Tryz.prog 40 #[.agg #[.bool v, .int .u64 hi, .int .u64 lo], .int .i64 b] w fun e w' => e = .returned (.tuple #[.int .u64 (mask (wid v - b - 64)), .int .u64 (mask (wid v - b))]) ∧ ∃ c c', w' = ((w.alloc (.cells c 25)).alloc (.cells c' 25)).drew) := fun w => rest_any v hi lo b w h0 h1
  have e1 : bits .andNot .u64 hi (mask (wid v - b - 64)) = fsH v hi b := andNot_any hi _ i0 i1 (Nat.min_le_right _ _)
  have e2 : bits .andNot .u64 lo (mask (wid v - b)) = fsL v lo b := andNot_any lo _ l0 l1 (Nat.min_le_right _ _)
  generalize mask (wid v - b - 64) = m1 at *
  generalize mask (wid v - b) = m2 at *
  generalize fsH v hi b = r1 at *
  generalize fsL v lo b = r2 at *
  go_enter Tryz.func26, Tryz.ntmps26
  go_wp2_with fail
  refine (hr.out _).mono ?_
  rintro e w1 ⟨rfl, c, c', rfl⟩
  clear hr
  go_wp2
  refine bodyPost_ret (v := .agg #[.bool v, .int .u64 r1, .int .u64 r2]) ?_ rfl ⟨rfl, ?_⟩
  · simp [results, Tryz.results26, go_sem]
  · exact ⟨_, _, _, _, rfl⟩

set_option maxHeartbeats 4000000 in
set_option maxRecDepth 100000 in
theorem last_pf (v : Bool) (hi lo b : Int) (w : World) (h0 : 0 ≤ b) (h1 : b ≤ wid v) (i0 : 0 ≤ hi) (i1 : hi < 18446744073709551616) (l0 : 0 ≤ lo) (l1 : lo < 18446744073709551616) :
    Calls Tryz.prog 33 #[.agg #[.bool v, .int .u64 hi, .int .u64 lo, .int .i64 b]] w fun e w' => e = .returned (.agg #[.bool v, .int .u64 (laH v hi b), .int .u64 (laL v lo b)]) ∧ ∃ o1 o2 o3 o4, w' = ((((w.alloc o1).alloc o2).alloc o3).alloc o4).drew := by
  have hr : Hid (∀ w : World, Calls Tryz.prog 40 #[.agg #[.bool v, .int .u64 hi, .int .u64 lo], .int .i64 b] w fun e w' => e = .returned (.tuple #[.int .u64 (mask (wid v - b - 64)), .int .u64 (mask (wid v - b))]) ∧ ∃ c c', w' = ((w.alloc (.cells c 25)).alloc (.cells c' 25)).drew) := fun w => rest_any v hi lo b w h0 h1
  have e1 : bits .or .u64 hi (mask (wid v - b - 64)) = laH v hi b := orMask_any hi _ i0 i1 (Nat.min_le_right _ _)
  have e2 : bits .or .u64 lo (mask (wid v - b)) = laL v lo b := orMask_any lo _ l0 l1 (Nat.min_le_right _ _)
  generalize mask (wid v - b - 64) = m1 at *
  generalize mask (wid v - b) = m2 at *
  generalize laH v hi b = r1 at *
  generalize laL v lo b = r2 at *
  go_enter Tryz.func33, Tryz.ntmps33
  go_wp2_with fail
  refine (hr.out _).mono ?_
  rintro e w1 ⟨rfl, c, c', rfl⟩
  clear hr
  go_wp2
  refine bodyPost_ret (v := .agg #[.bool v, .int .u64 r1, .int .u64 r2]) ?_ rfl ⟨rfl, ?_⟩
  · simp [results, Tryz.results33, go_sem]
  · exact ⟨_, _, _, _, rfl⟩

theorem below4 {w w' : World} (h : ∃ o1 o2 o3 o4, w' = ((((w.alloc o1).alloc o2).alloc o3).alloc o4).drew) : Below w.heap.size w w' := by
  obtain ⟨o1, o2, o3, o4, rfl⟩ := h
  exact (bal (bal (bal (bal (Below.refl _ _) _) _) _) _).drew

/-- The cells of a prefix in memory. -/
def Has4 (w : World) (p : Nat) (v : Bool) (hi lo b : Int) : Prop := w.cell? ⟨p, 0, none⟩ = some (.bool v) ∧ w.cell? ⟨p, 1, none⟩ = some (.int .u64 hi) ∧ w.cell? ⟨p, 2, none⟩ = some (.int .u64 lo) ∧ w.cell? ⟨p, 3, none⟩ = some (.int .i64 b) ∧ p < w.heap.size
theorem Has4.below {W w' : World} {p : Nat} {v : Bool} {hi lo b : Int} (h : Has4 W p v hi lo b) (hb : Below W.heap.size W w') : Has4 w' p v hi lo b := by
  obtain ⟨a, b, c, d, f⟩ := h
  obtain ⟨h1, _⟩ := bcell hb
  exact ⟨by rw [h1 _ _ f]; exact a, by rw [h1 _ _ f]; exact b, by rw [h1 _ _ f]; exact c, by rw [h1 _ _ f]; exact d, Nat.lt_of_lt_of_le f hb.size⟩
theorem Has4.new (W : World) (v : Bool) (hi lo b : Int) (t : Nat) : Has4 (W.alloc (.cells #[.bool v, .int .u64 hi, .int .u64 lo, .int .i64 b] t)) W.heap.size v hi lo b := by
  refine ⟨?_, ?_, ?_, ?_, ?_⟩
  · simp [go_sem]
  · simp [go_sem]
  · simp [go_sem]
  · simp [go_sem]
  · simp
theorem Has4.drew {W : World} {p : Nat} {v : Bool} {hi lo b : Int} (h : Has4 W p v hi lo b) : Has4 W.drew p v hi lo b := h
theorem Has4.alloc {W : World} {p : Nat} {v : Bool} {hi lo b : Int} (h : Has4 W p v hi lo b) (o : Obj) : Has4 (W.alloc o) p v hi lo b := h.below (bal (Below.refl _ _) _)

end Go.Proofs.YtghbonlignmdoaaGreatDoor
