/- prefix.Has, prefix.Halves, prefix.Whole where nothing is wrong. -/
import Derived.Test.YtclnfkohlklbpaaPfD
set_option linter.unusedVariables false
set_option linter.unusedSimpArgs false
namespace Go.Proofs.Ytclnfkohlklbpaa
open Go.RowKit

/-- Has a prefix another one? -/
def hasB (v : Bool) (hi lo b : Int) (u : Bool) (yi yo c : Int) : Bool := decide (b ≤ c) && eqA u (fsH u yi b) (fsL u yo b) v hi lo

theorem keep8b {w W W' : World} {p q : Nat} {v : Bool} {hi lo b : Int} {u : Bool} {yi yo c : Int}
    (h : (W.cell? ⟨p, 0, none⟩ = some (.bool v) ∧ W.cell? ⟨p, 1, none⟩ = some (.int .u64 hi) ∧ W.cell? ⟨p, 2, none⟩ = some (.int .u64 lo) ∧ W.cell? ⟨p, 3, none⟩ = some (.int .i64 b) ∧ p < W.heap.size) ∧ (W.cell? ⟨q, 0, none⟩ = some (.bool u) ∧ W.cell? ⟨q, 1, none⟩ = some (.int .u64 yi) ∧ W.cell? ⟨q, 2, none⟩ = some (.int .u64 yo) ∧ W.cell? ⟨q, 3, none⟩ = some (.int .i64 c) ∧ q < W.heap.size) ∧ Below w.heap.size w W)
    (hb : Below W.heap.size W W') :
    (W'.cell? ⟨p, 0, none⟩ = some (.bool v) ∧ W'.cell? ⟨p, 1, none⟩ = some (.int .u64 hi) ∧ W'.cell? ⟨p, 2, none⟩ = some (.int .u64 lo) ∧ W'.cell? ⟨p, 3, none⟩ = some (.int .i64 b) ∧ p < W'.heap.size) ∧ (W'.cell? ⟨q, 0, none⟩ = some (.bool u) ∧ W'.cell? ⟨q, 1, none⟩ = some (.int .u64 yi) ∧ W'.cell? ⟨q, 2, none⟩ = some (.int .u64 yo) ∧ W'.cell? ⟨q, 3, none⟩ = some (.int .i64 c) ∧ q < W'.heap.size) ∧ Below w.heap.size w W' :=
  ⟨Has4.below h.1 hb, Has4.below h.2.1 hb, btr h.2.2 hb⟩

theorem cut_lt {k : Nat} {x : Int} (h0 : 0 ≤ x) (h1 : x < 18446744073709551616) (hk : k ≤ 64) : 0 ≤ cutI k x ∧ cutI k x + (2 ^ k - 1) < 18446744073709551616 := by
  obtain ⟨n, rfl⟩ := Int.eq_ofNat_of_zero_le h0
  have e : cutI k (n : Int) = ((n / 2 ^ k * 2 ^ k : Nat) : Int) := by simp [cutI]
  have hd : (2 : Nat) ^ k * 2 ^ (64 - k) = 18446744073709551616 := by rw [← Nat.pow_add, show k + (64 - k) = 64 by omega]
  have hlt : n / 2 ^ k < 2 ^ (64 - k) := Nat.div_lt_of_lt_mul (by omega)
  have h2 : (n / 2 ^ k + 1) * 2 ^ k ≤ 2 ^ (64 - k) * 2 ^ k := Nat.mul_le_mul_right _ hlt
  rw [Nat.mul_comm (2 ^ (64 - k)), hd, Nat.add_mul, Nat.one_mul] at h2
  have e2 : (2 : Int) ^ k = ((2 ^ k : Nat) : Int) := (pow_cast k).symm
  rw [e, e2]
  have h3 : 0 < 2 ^ k := Nat.pow_pos (by decide)
  generalize n / 2 ^ k * 2 ^ k = m at *
  generalize 2 ^ k = t at *
  omega
theorem laH_lt {v : Bool} {hi b : Int} (h0 : 0 ≤ hi) (h1 : hi < 18446744073709551616) : 0 ≤ laH v hi b ∧ laH v hi b < 18446744073709551616 := by
  have := cut_lt h0 h1 (Nat.min_le_right (wid v - b - 64).toNat 64)
  unfold laH fsH mask
  have hp : (0 : Int) < 2 ^ (min (wid v - b - 64).toNat 64) := Int.pow_pos (by decide)
  omega
theorem laL_lt {v : Bool} {lo b : Int} (h0 : 0 ≤ lo) (h1 : lo < 18446744073709551616) : 0 ≤ laL v lo b ∧ laL v lo b < 18446744073709551616 := by
  have := cut_lt h0 h1 (Nat.min_le_right (wid v - b).toNat 64)
  unfold laL fsL mask
  have hp : (0 : Int) < 2 ^ (min (wid v - b).toNat 64) := Int.pow_pos (by decide)
  omega

end Go.Proofs.Ytclnfkohlklbpaa
