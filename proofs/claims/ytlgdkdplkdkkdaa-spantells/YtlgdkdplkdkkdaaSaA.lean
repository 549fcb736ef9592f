/- The document: are two lists the same? -/
import Derived.Test.YtlgdkdplkdkkdaaTmB
import Derived.Test.YtlgdkdplkdkkdaaPfF
set_option linter.unusedVariables false
set_option linter.unusedSimpArgs false
namespace Go.Proofs.Ytlgdkdplkdkkdaa
open Go.RowKit

set_option maxHeartbeats 8000000 in
set_option maxRecDepth 100000 in
/-- Two lists of the same prefixes are the same. -/
theorem same_any (a b : Option Addr) (c d : Nat) (L : List Pf) (w : World) (hl : L.length ≤ 100000) (ha : Sl w a L) (hb : Sl w b L) :
    Calls Try.prog 28 #[.slice a L.length c, .slice b L.length d] w fun e w' => e = .returned (.bool true) ∧ Below w.heap.size w w' := by
  obtain ⟨N, hN⟩ : ∃ N, N = L.length := ⟨_, rfl⟩
  rw [← hN] at hl ⊢
  have HN : Hid (N = L.length) := hN
  have hnn : ((N : Int) != (N : Int)) = false := by simp
  clear hN
  go_enter Try.func28, Try.ntmps28
  go_wp2_with fail
  go_loopw [5] (fun vi wr => ∃ k : Nat, vi = .int .i64 k ∧ k ≤ N ∧ Hid (Below w.heap.size w wr))
    (fun vi _ => N - (intOf vi).toNat)
  case atStart => exact ⟨0, rfl, Nat.zero_le _, Below.refl _ _⟩
  case round =>
    obtain ⟨k, rfl, hk, HB⟩ := hrel
    have hN := HN.out
    by_cases hkN : k < N
    · have hkl : k < L.length := by omega
      obtain ⟨g, o, rfl, hg, c0, c1, c2, c3⟩ := ha k hkl
      obtain ⟨g', o', rfl, hg', d0, d1, d2, d3⟩ := hb k hkl
      rw [← (bcell HB.out).1 _ _ hg] at c0 c1 c2 c3
      rw [← (bcell HB.out).1 _ _ hg'] at d0 d1 d2 d3
      generalize L[k] = x at *
      obtain ⟨v, hi, lo, b⟩ := x
      simp only at c0 c1 c2 c3 d0 d1 d2 d3
      have hq : ∀ w : World, (binOp .neq 27 (.agg #[.bool v, .int .u64 hi, .int .u64 lo, .int .i64 b]) (.agg #[.bool v, .int .u64 hi, .int .u64 lo, .int .i64 b])).run Try.prog w = .ok (.bool false) w := fun w => by
        rw [neq_pf, show eqP v hi lo b v hi lo b = true from eqP_iff.2 ⟨rfl, rfl, rfl, rfl⟩]; rfl
      have k3 : (k : Int) < (N : Int) := by omega
      have k4 : (0 : Int) ≤ (k : Int) := by omega
      clear hN ha hb hg hg'
      go_wp2_with fail
      go_region_held3 (fun w' => (w'.cell? ⟨g, o + k * 4, none⟩ = some (.bool v) ∧ w'.cell? ⟨g, o + k * 4 + 1, none⟩ = some (.int .u64 hi) ∧ w'.cell? ⟨g, o + k * 4 + 2, none⟩ = some (.int .u64 lo) ∧ w'.cell? ⟨g, o + k * 4 + 3, none⟩ = some (.int .i64 b)) ∧ (w'.cell? ⟨g', o' + k * 4, none⟩ = some (.bool v) ∧ w'.cell? ⟨g', o' + k * 4 + 1, none⟩ = some (.int .u64 hi) ∧ w'.cell? ⟨g', o' + k * 4 + 2, none⟩ = some (.int .u64 lo) ∧ w'.cell? ⟨g', o' + k * 4 + 3, none⟩ = some (.int .i64 b)))
        (first | exact ⟨⟨c0, c1, c2, c3⟩, ⟨d0, d1, d2, d3⟩⟩ | assumption)
        (fail)
      go_wp2_with fail
      go_roundw
      case rel => exact ⟨k + 1, by go_num, by omega, HB.out.drew⟩
      case measure => simp [intOf]; omega
    · obtain rfl : k = N := by omega
      have k3 : decide ((k : Int) < (k : Int)) = false := by simp
      clear hN ha hb
      go_wp2_with fail
      go_ret
      exact ⟨rfl, HB.out⟩
end Go.Proofs.Ytlgdkdplkdkkdaa
