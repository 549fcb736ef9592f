/- Halves by their numbers. -/
import Derived.Test.YtiiankekobgebaaPfQ
set_option linter.unusedVariables false
set_option linter.unusedSimpArgs false
namespace Go.Proofs.Ytiiankekobgebaa

theorem amt_half {v : Bool} {b : Int} (b0 : 0 ≤ b) (h : b < wid v) : amt v b = amt v (b + 1) * 2 := by
  unfold amt
  rw [show (wid v - b).toNat = (wid v - (b + 1)).toNat + 1 by omega, Int.pow_succ]
theorem right_low {v : Bool} {hi lo b : Int} (r : Right v hi lo b) (h : b < wid v) : Right v hi lo (b + 1) :=
  ⟨r.c, by have := r.b0; omega, by omega, r.h0, r.h1, r.l0, r.l1, mod_of (m := 2) (by rw [← amt_half r.b0 h]; exact r.al)⟩
/-- The greater half: its first address, and that it is right. -/
theorem great_num {v : Bool} {hi lo b : Int} (r : Right v hi lo b) (h : b < wid v) :
    num (fsH v (laH v hi b) (b + 1)) (fsL v (laL v lo b) (b + 1)) = num hi lo + amt v (b + 1) ∧ Right v (fsH v (laH v hi b) (b + 1)) (fsL v (laL v lo b) (b + 1)) (b + 1) := by
  obtain ⟨n1, c1, i1, l1⟩ := la_num r
  have b0 := r.b0
  have e := fs_num v (laH v hi b) (laL v lo b) (b + 1) c1 (by omega) (by omega) i1.1 i1.2 l1.1 l1.2
  have ap := amt_pos v (b + 1)
  have ah := amt_half b0 h
  have al := (right_low r h).al
  have hm : num (laH v hi b) (laL v lo b) % amt v (b + 1) = amt v (b + 1) - 1 := by
    rw [n1, ah]
    obtain ⟨k, hk⟩ := Int.dvd_of_emod_eq_zero al
    rw [hk, show amt v (b + 1) * k + amt v (b + 1) * 2 - 1 = (amt v (b + 1) - 1) + amt v (b + 1) * (k + 1) by rw [Int.mul_add]; omega, Int.add_mul_emod_self_left]
    exact Int.emod_eq_of_lt (by omega) (by omega)
  have e2 : num (fsH v (laH v hi b) (b + 1)) (fsL v (laL v lo b) (b + 1)) = num hi lo + amt v (b + 1) := by rw [e, hm, n1, ah]; omega
  have r1 : 0 ≤ fsH v (laH v hi b) (b + 1) ∧ fsH v (laH v hi b) (b + 1) < 18446744073709551616 := cut_rng _ i1.1 i1.2
  have r2 : 0 ≤ fsL v (laL v lo b) (b + 1) ∧ fsL v (laL v lo b) (b + 1) < 18446744073709551616 := cut_rng _ l1.1 l1.2
  have nt := num_top c1 i1.1 i1.2 l1.1 l1.2
  refine ⟨e2, chk_top r1.1 r2.1 (by rw [e2]; rw [n1, ah] at nt; omega), by omega, by omega, r1.1, r1.2, r2.1, r2.2, ?_⟩
  rw [e2]
  exact mod_add al (by have := Int.mul_emod_right (amt v (b + 1)) 1; rwa [Int.mul_one] at this)
end Go.Proofs.Ytiiankekobgebaa
