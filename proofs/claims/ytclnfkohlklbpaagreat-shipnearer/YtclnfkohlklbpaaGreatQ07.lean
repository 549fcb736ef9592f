/- The walk of addr.Next: what it returns, whatever address it is handed. -/
import Derived.Test.YtclnfkohlklbpaaGreatQ01
import Derived.Shelf.Spec.BitsCarry

namespace Go.Proofs.YtclnfkohlklbpaaGreat
open Go.RowKit

theorem last_any (v : Bool) (w : World) :
    Calls Tryz.prog 114 #[.bool v] w fun e w' =>
      e = .returned (.agg #[.bool v, .int .u64 (mxH v), .int .u64 (mxL v)]) ∧ ∃ c, w' = w.alloc (.cells c 38) := by
  cases v
  all_goals
    go_enter Tryz.func114, Tryz.ntmps114
    go_wp2
    simp [bodyPost, results, Tryz.results114, go_sem, mxH, mxL]
    exact ⟨_, rfl⟩

theorem add64_1 (x : Int) (hx : 0 ≤ x) (w : World) : (callFunc 115 #[.int .u64 x, .int .u64 1, .int .u64 0]).run Tryz.prog w =
    .ok (.value (.tuple #[.int .u64 ((x + 1) % 18446744073709551616), .int .u64 ((x + 1) / 18446744073709551616)])) w := by
  obtain ⟨x, rfl⟩ := Int.eq_ofNat_of_zero_le hx
  have h := run_add64 (P := Tryz.prog) x 1 0 (by omega) (by omega) (by omega) (by omega) w
  rw [run_callFunc_extern Tryz.func115 (by kernel_rfl) (by kernel_rfl) (by kernel_rfl) (e := add64Entry) (by kernel_rfl), h]
  simp only [Result.andThen]
  congr 5 <;> omega

def isLast (v : Bool) (hi lo : Int) : Bool := eqA v hi lo v (mxH v) (mxL v)
def nxH (v : Bool) (hi lo : Int) : Int := if chk v hi lo = 0 ∧ isLast v hi lo = false then (hi + (lo + 1) / 18446744073709551616) else 0
def nxL (v : Bool) (hi lo : Int) : Int := if chk v hi lo = 0 ∧ isLast v hi lo = false then (lo + 1) % 18446744073709551616 else 0
def nxV (v : Bool) (hi lo : Int) : Bool := if chk v hi lo = 0 ∧ isLast v hi lo = false then v else false
def nxB (v : Bool) (hi lo : Int) : Bool := if chk v hi lo = 0 ∧ isLast v hi lo = false then true else false

theorem not_last {v : Bool} {hi lo : Int} (h0 : 0 ≤ hi) (l0 : 0 ≤ lo) (h1 : hi < 18446744073709551616) (l1 : lo < 18446744073709551616) (hc : v = true ∨ (hi = 0 ∧ lo ≤ 4294967295))
    (hl : eqA v hi lo v (mxH v) (mxL v) = false) : hi + (lo + 1) / 18446744073709551616 < 18446744073709551616 := by
  cases v
  · simp at hc; omega
  · simp [eqA, mxH, mxL] at hl; omega

theorem next_any (v : Bool) (hi lo : Int) (w : World) (h0 : 0 ≤ hi) (l0 : 0 ≤ lo) (h1 : hi < 18446744073709551616) (l1 : lo < 18446744073709551616) :
    Calls Tryz.prog 113 #[.agg #[.bool v, .int .u64 hi, .int .u64 lo]] w fun e w' =>
      e = .returned (.tuple #[.agg #[.bool (nxV v hi lo), .int .u64 (nxH v hi lo), .int .u64 (nxL v hi lo)], .bool (nxB v hi lo), .int .i64 (chk v hi lo)]) ∧ Below w.heap.size w w' := by
  have hq := eql_addr v hi lo v (mxH v) (mxL v)
  rcases chk_cases v hi lo with ⟨c1, hc⟩ | c1
  · cases hl : isLast v hi lo
    · have e1 : nxV v hi lo = v := by simp [nxV, c1, hl]
      have e2 : nxH v hi lo = hi + (lo + 1) / 18446744073709551616 := by simp [nxH, c1, hl]
      have e3 : nxL v hi lo = (lo + 1) % 18446744073709551616 := by simp [nxL, c1, hl]
      have e4 : nxB v hi lo = true := by simp [nxB, c1, hl]
      rw [e1, e2, e3, e4, c1]; clear e1 e2 e3 e4
      have C1 : Hid (chk v hi lo = 0) := c1
      clear c1
      have hl' : eqA v hi lo v (mxH v) (mxL v) = false := hl
      have hN := not_last h0 l0 h1 l1 hc hl'
      have k0 : 0 ≤ (lo + 1) / 18446744073709551616 := by omega
      have hN0 : 0 ≤ hi + (lo + 1) / 18446744073709551616 := by omega
      clear hl hc
      go_enter Tryz.func113, Tryz.ntmps113
      go_wp2_with fail
      refine (check_any v hi lo _ h0 l0).mono ?_
      rintro e w' ⟨rfl, k1, rfl⟩
      rw [C1.out]
      go_wp2_with fail
      go_region_held3 (fun w' => w'.cell? ⟨w.heap.size, 0, none⟩ = some (.bool v) ∧ w'.cell? ⟨w.heap.size, 1, none⟩ = some (.int .u64 hi) ∧ w'.cell? ⟨w.heap.size, 2, none⟩ = some (.int .u64 lo)) (simp [go_sem, World.cell?_alloc_past])
        ((go_at_call 114; refine (last_any v _).mono ?_; rintro e w' ⟨rfl, k2, rfl⟩))
      go_wp2_with (simp only [add64_1 lo l0])
      refine bodyPost_ret (v := .tuple #[.agg #[.bool v, .int .u64 (hi + (lo + 1) / 18446744073709551616), .int .u64 ((lo + 1) % 18446744073709551616)], .bool true, .int .i64 0]) ?_ rfl ⟨rfl, ?_⟩
      · simp [results, Tryz.results113, go_sem]
      · repeat (first | exact Below.refl _ _ | apply bal | apply Below.drew)
    · have e1 : nxV v hi lo = false := by simp [nxV, hl]
      have e2 : nxH v hi lo = 0 := by simp [nxH, hl]
      have e3 : nxL v hi lo = 0 := by simp [nxL, hl]
      have e4 : nxB v hi lo = false := by simp [nxB, hl]
      rw [e1, e2, e3, e4, c1]; clear e1 e2 e3 e4
      have C1 : Hid (chk v hi lo = 0) := c1
      clear c1
      have hl' : eqA v hi lo v (mxH v) (mxL v) = true := hl
      clear hl hc
      go_enter Tryz.func113, Tryz.ntmps113
      go_wp2_with fail
      refine (check_any v hi lo _ h0 l0).mono ?_
      rintro e w' ⟨rfl, k1, rfl⟩
      rw [C1.out]
      go_wp2_with fail
      go_region_held3 (fun w' => w'.cell? ⟨w.heap.size, 0, none⟩ = some (.bool v) ∧ w'.cell? ⟨w.heap.size, 1, none⟩ = some (.int .u64 hi) ∧ w'.cell? ⟨w.heap.size, 2, none⟩ = some (.int .u64 lo)) (simp [go_sem, World.cell?_alloc_past])
        ((go_at_call 114; refine (last_any v _).mono ?_; rintro e w' ⟨rfl, k2, rfl⟩))
      go_wp2
      refine bodyPost_ret (v := .tuple #[.agg #[.bool false, .int .u64 0, .int .u64 0], .bool false, .int .i64 0]) ?_ rfl ⟨rfl, ?_⟩
      · simp [results, Tryz.results113, go_sem]
      · repeat (first | exact Below.refl _ _ | apply bal | apply Below.drew)
  · have e1 : nxV v hi lo = false := by simp [nxV, c1]
    have e2 : nxH v hi lo = 0 := by simp [nxH, c1]
    have e3 : nxL v hi lo = 0 := by simp [nxL, c1]
    have e4 : nxB v hi lo = false := by simp [nxB, c1]
    rw [e1, e2, e3, e4, c1]; clear e1 e2 e3 e4
    have C1 : Hid (chk v hi lo = 3) := c1
    clear c1
    go_enter Tryz.func113, Tryz.ntmps113
    go_wp2_with fail
    refine (check_any v hi lo _ h0 l0).mono ?_
    rintro e w' ⟨rfl, k1, rfl⟩
    rw [C1.out]
    go_wp2
    refine bodyPost_ret (v := .tuple #[.agg #[.bool false, .int .u64 0, .int .u64 0], .bool false, .int .i64 3]) ?_ rfl ⟨rfl, ?_⟩
    · simp [results, Tryz.results113, go_sem]
    · repeat (first | exact Below.refl _ _ | apply bal | apply Below.drew)
end Go.Proofs.YtclnfkohlklbpaaGreat
