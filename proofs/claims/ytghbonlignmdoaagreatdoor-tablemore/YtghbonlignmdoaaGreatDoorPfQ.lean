/- What the laws on prefixes lean on, by numbers: without Go. -/
import Derived.Test.YtghbonlignmdoaaGreatDoorPfP
set_option linter.unusedVariables false
set_option linter.unusedSimpArgs false
namespace Go.Proofs.YtghbonlignmdoaaGreatDoor

theorem less_num {v u : Bool} {xh xl yh yl : Int} (h2 : 0 ≤ xl ∧ xl < 18446744073709551616) (h4 : 0 ≤ yl ∧ yl < 18446744073709551616) (c1 : chk v xh xl = 0) (c2 : chk u yh yl = 0) :
    lessE v xh xl u yh yl = 0 ∧ (lessB v xh xl u yh yl = true ↔ (v = u ∧ num xh xl < num yh yl) ∨ (v = false ∧ u = true)) := by
  have hE : lessE v xh xl u yh yl = 0 := by simp [lessE, c1, c2]
  refine ⟨hE, ?_⟩
  obtain ⟨b1, b2⟩ := h2; obtain ⟨e1, e2⟩ := h4
  simp only [lessB, hE, if_true, num]
  cases v <;> cases u <;> simp [lsB] <;> omega

theorem amt_mod {v : Bool} {b c : Int} (h0 : 0 ≤ b) (h : b ≤ c) (h1 : c ≤ wid v) : ∃ m, amt v b = amt v c * m := by
  refine ⟨2 ^ (c - b).toNat, ?_⟩
  unfold amt
  rw [← Int.pow_add]
  congr 1
  omega
theorem mod_of {x a m : Int} (h : x % (a * m) = 0) : x % a = 0 := by
  obtain ⟨k, rfl⟩ := Int.dvd_of_emod_eq_zero h
  rw [Int.mul_assoc]
  exact Int.mul_emod_right _ _
theorem mod_add {x y a : Int} (h : x % a = 0) (h' : y % a = 0) : (x + y) % a = 0 := by
  obtain ⟨k, rfl⟩ := Int.dvd_of_emod_eq_zero h
  obtain ⟨j, rfl⟩ := Int.dvd_of_emod_eq_zero h'
  rw [← Int.mul_add]
  exact Int.mul_emod_right _ _

/-- A prefix of more bits lies whole on one side of another one's first address, and of what is behind it. -/
theorem side {v : Bool} {hi lo b yi yo c : Int} (r : Right v hi lo b) (q : Right v yi yo c) (h : b ≤ c) :
    (num yi yo < num hi lo → num yi yo + amt v c ≤ num hi lo) ∧ (num yi yo < num hi lo + amt v b → num yi yo + amt v c ≤ num hi lo + amt v b) := by
  obtain ⟨m, hm⟩ := amt_mod r.b0 h q.b1
  have h1 : num hi lo % amt v c = 0 := mod_of (by rw [← hm]; exact r.al)
  have h2 : amt v b % amt v c = 0 := by rw [hm]; exact Int.mul_emod_right _ _
  exact ⟨fun k => step_le (amt_pos v c) q.al h1 k, fun k => step_le (amt_pos v c) q.al (mod_add h1 h2) k⟩

theorem eqP_iff {v : Bool} {hi lo b : Int} {u : Bool} {yi yo c : Int} : eqP v hi lo b u yi yo c = true ↔ v = u ∧ hi = yi ∧ lo = yo ∧ b = c := by
  simp [eqP, eqA, and_assoc]

/-- If one has another one: that has it, too, just if they are the same. -/
theorem has_same {v : Bool} {hi lo b : Int} {u : Bool} {yi yo c : Int} (r : Right v hi lo b) (q : Right u yi yo c) (h : hasB v hi lo b u yi yo c = true) :
    eqP v hi lo b u yi yo c = hasB u yi yo c v hi lo b := by
  rw [has_num r q] at h
  obtain ⟨h1, rfl, h2, h3⟩ := h
  rw [Bool.eq_iff_iff, has_num q r, eqP_iff]
  constructor
  · rintro ⟨_, rfl, rfl, rfl⟩
    exact ⟨Int.le_refl _, rfl, Int.le_refl _, by have := amt_pos u b; omega⟩
  · rintro ⟨k1, _, k2, k3⟩
    obtain ⟨e1, e2⟩ := num_inj r.l0 r.l1 q.l0 q.l1 (show num hi lo = num yi yo by omega)
    exact ⟨rfl, e1, e2, by omega⟩
/-- What has something has what that has. -/
theorem has_trans {v : Bool} {hi lo b : Int} {u : Bool} {yi yo c : Int} {t : Bool} {zi zo d : Int} (r : Right v hi lo b) (q : Right u yi yo c) (s : Right t zi zo d) (h : hasB v hi lo b u yi yo c = true) (h' : hasB u yi yo c t zi zo d = true) :
    hasB v hi lo b t zi zo d = true := by
  rw [has_num r q] at h
  rw [has_num q s] at h'
  rw [has_num r s]
  obtain ⟨h1, rfl, h2, h3⟩ := h
  obtain ⟨k1, rfl, k2, k3⟩ := h'
  have := (side r q h1).2 h3
  exact ⟨by omega, rfl, by omega, by omega⟩
/-- If none has the other one, one's last address stands ahead of the other one's first. -/
theorem has_apart {v : Bool} {hi lo b : Int} {u : Bool} {yi yo c : Int} (r : Right v hi lo b) (q : Right u yi yo c) (h : hasB v hi lo b u yi yo c = false) (h' : hasB u yi yo c v hi lo b = false) :
    lessB v (laH v hi b) (laL v lo b) u yi yo = true ∨ lessB u (laH u yi c) (laL u yo c) v hi lo = true := by
  obtain ⟨n1, c1, _, l1⟩ := la_num r
  obtain ⟨n2, c2, _, l2⟩ := la_num q
  rw [(less_num l1 ⟨q.l0, q.l1⟩ c1 q.c).2, (less_num l2 ⟨r.l0, r.l1⟩ c2 r.c).2, n1, n2]
  by_cases hvu : v = u
  · subst hvu
    have g : ¬ (hasB v hi lo b v yi yo c = true) := by rw [h]; simp
    have g' : ¬ (hasB v yi yo c v hi lo b = true) := by rw [h']; simp
    rw [has_num r q] at g
    rw [has_num q r] at g'
    by_cases hbc : b ≤ c
    · obtain ⟨s1, s2⟩ := side r q hbc
      by_cases k : num yi yo < num hi lo
      · right; left; exact ⟨rfl, by have := s1 k; omega⟩
      · left; left
        refine ⟨rfl, ?_⟩
        by_cases k2 : num yi yo < num hi lo + amt v b
        · exact absurd ⟨hbc, rfl, by omega, k2⟩ g
        · omega
    · obtain ⟨s1, s2⟩ := side q r (by omega)
      by_cases k : num hi lo < num yi yo
      · left; left; exact ⟨rfl, by have := s1 k; omega⟩
      · right; left
        refine ⟨rfl, ?_⟩
        by_cases k2 : num hi lo < num yi yo + amt v c
        · exact absurd ⟨by omega, rfl, by omega, k2⟩ g'
        · omega
  · cases v <;> cases u
    · exact absurd rfl hvu
    · left; right; exact ⟨rfl, rfl⟩
    · right; right; exact ⟨rfl, rfl⟩
    · exact absurd rfl hvu
end Go.Proofs.YtghbonlignmdoaaGreatDoor
