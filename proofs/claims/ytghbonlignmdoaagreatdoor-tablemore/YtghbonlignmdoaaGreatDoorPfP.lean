/- Prefixes as numbers: without Go. -/
import Derived.Test.YtghbonlignmdoaaGreatDoorPfF
set_option linter.unusedVariables false
set_option linter.unusedSimpArgs false
namespace Go.Proofs.YtghbonlignmdoaaGreatDoor

/-- An address as one number. -/
def num (hi lo : Int) : Int := hi * 18446744073709551616 + lo
/-- How many addresses a prefix has. -/
def amt (v : Bool) (b : Int) : Int := 2 ^ (wid v - b).toNat

theorem amt_pos (v : Bool) (b : Int) : 0 < amt v b := Int.pow_pos (by decide)

theorem cut_zero (k : Nat) : cutI k 0 = 0 := by simp [cutI]
theorem cut_none (x : Int) : cutI 0 x = x := by simp [cutI]
theorem cut_all {x : Int} (h0 : 0 ≤ x) (h1 : x < 18446744073709551616) : cutI 64 x = 0 := by
  unfold cutI
  rw [show (2 : Int) ^ 64 = 18446744073709551616 by decide]
  omega
theorem cut_eq (k : Nat) (x : Int) : cutI k x = x - x % 2 ^ k := by
  unfold cutI
  have := Int.emod_add_mul_ediv x (2 ^ k)
  rw [Int.mul_comm] at this
  omega

/-- The bits of both halves, as one number's. -/
theorem num_cut (n : Nat) (hn : n ≤ 128) (hi lo : Int) (h0 : 0 ≤ hi) (h1 : hi < 18446744073709551616) (l0 : 0 ≤ lo) (l1 : lo < 18446744073709551616) :
    num (cutI (n - 64) hi) (cutI (min n 64) lo) = num hi lo - num hi lo % 2 ^ n := by
  by_cases h : n ≤ 64
  · rw [show n - 64 = 0 by omega, show min n 64 = n by omega, cut_none, cut_eq]
    unfold num
    have hd : (18446744073709551616 : Int) = 2 ^ n * 2 ^ (64 - n) := by rw [← Int.pow_add, show n + (64 - n) = 64 by omega]; decide
    have e : (hi * 18446744073709551616 + lo) % 2 ^ n = lo % 2 ^ n := by
      rw [show hi * 18446744073709551616 + lo = lo + 2 ^ n * (2 ^ (64 - n) * hi) by rw [hd, Int.mul_comm hi, Int.mul_assoc, Int.add_comm], Int.add_mul_emod_self_left]
    rw [e]; omega
  · rw [show min n 64 = 64 by omega, cut_all l0 l1, cut_eq]
    obtain ⟨k, rfl⟩ : ∃ k, n = k + 64 := ⟨n - 64, by omega⟩
    rw [show k + 64 - 64 = k by omega]
    unfold num
    have hp : (0 : Int) < 2 ^ k := Int.pow_pos (by decide)
    have e2 : (2 : Int) ^ (k + 64) = 2 ^ k * 18446744073709551616 := by rw [Int.pow_add]; rfl
    rw [e2]
    have hr : (hi * 18446744073709551616 + lo) % (2 ^ k * 18446744073709551616) = hi % 2 ^ k * 18446744073709551616 + lo := by
      have hm := Int.emod_add_mul_ediv hi (2 ^ k)
      have g0 := Int.emod_nonneg hi (show (2 : Int) ^ k ≠ 0 by omega)
      have g1 := Int.emod_lt_of_pos hi hp
      generalize hi % 2 ^ k = r at *
      generalize hi / 2 ^ k = q at *
      have : hi * 18446744073709551616 + lo = (r * 18446744073709551616 + lo) + 2 ^ k * 18446744073709551616 * q := by
        rw [← hm, Int.add_mul, Int.mul_assoc, Int.mul_assoc, Int.mul_comm q]; omega
      rw [this, Int.add_mul_emod_self_left]
      refine Int.emod_eq_of_lt (by omega) ?_
      have : (r + 1) * 18446744073709551616 ≤ 2 ^ k * 18446744073709551616 := Int.mul_le_mul_of_nonneg_right (by omega) (by decide)
      omega
    rw [hr]
    rw [Int.sub_mul]; omega

theorem fs_num (v : Bool) (hi lo b : Int) (c : chk v hi lo = 0) (b0 : 0 ≤ b) (b1 : b ≤ wid v) (h0 : 0 ≤ hi) (h1 : hi < 18446744073709551616) (l0 : 0 ≤ lo) (l1 : lo < 18446744073709551616) :
    num (fsH v hi b) (fsL v lo b) = num hi lo - num hi lo % amt v b := by
  have hw : wid v ≤ 128 := by unfold wid; split <;> omega
  have := num_cut (wid v - b).toNat (by omega) hi lo h0 h1 l0 l1
  unfold fsH fsL amt
  rw [show min (wid v - b - 64).toNat 64 = (wid v - b).toNat - 64 by omega]
  exact this

theorem mask_num (n : Int) (h0 : 0 ≤ n) (h1 : n ≤ 128) : num (mask (n - 64)) (mask n) = 2 ^ n.toNat - 1 := by
  unfold num mask
  by_cases h : n ≤ 64
  · rw [show min (n - 64).toNat 64 = 0 by omega, show min n.toNat 64 = n.toNat by omega]
    simp
  · rw [show min n.toNat 64 = 64 by omega]
    obtain ⟨k, hk⟩ : ∃ k, n.toNat = k + 64 := ⟨n.toNat - 64, by omega⟩
    rw [hk, show min (n - 64).toNat 64 = k by omega, Int.pow_add, show (2 : Int) ^ 64 = 18446744073709551616 by decide]
    omega

/-- What is known of a prefix that is right. -/
structure Right (v : Bool) (hi lo b : Int) : Prop where
  c : chk v hi lo = 0
  b0 : 0 ≤ b
  b1 : b ≤ wid v
  h0 : 0 ≤ hi
  h1 : hi < 18446744073709551616
  l0 : 0 ≤ lo
  l1 : lo < 18446744073709551616
  al : num hi lo % amt v b = 0
theorem num_inj {hi lo yi yo : Int} (l0 : 0 ≤ lo) (l1 : lo < 18446744073709551616) (m0 : 0 ≤ yo) (m1 : yo < 18446744073709551616) (h : num hi lo = num yi yo) : hi = yi ∧ lo = yo := by
  unfold num at h; omega
theorem cut_rng (k : Nat) {x : Int} (h0 : 0 ≤ x) (h1 : x < 18446744073709551616) : 0 ≤ cutI k x ∧ cutI k x < 18446744073709551616 := by
  have hp : (0 : Int) < 2 ^ k := Int.pow_pos (by decide)
  have g0 := Int.emod_nonneg x (show (2 : Int) ^ k ≠ 0 by omega)
  have g1 := Int.emod_lt_of_pos x hp
  rw [cut_eq]
  have hm := Int.emod_add_mul_ediv x (2 ^ k)
  have := Int.mul_nonneg (show (0 : Int) ≤ 2 ^ k by omega) (Int.ediv_nonneg h0 (show (0 : Int) ≤ 2 ^ k by omega))
  omega
theorem right_iff (v : Bool) (hi lo b : Int) (h0 : 0 ≤ hi) (h1 : hi < 18446744073709551616) (l0 : 0 ≤ lo) (l1 : lo < 18446744073709551616) : pchk v hi lo b = 0 ↔ Right v hi lo b := by
  constructor
  · intro h
    rcases pchk_cases v hi lo b with ⟨_, c, b0, b1, e1, e2⟩ | k | k
    · have := fs_num v hi lo b c b0 b1 h0 h1 l0 l1
      rw [e1, e2] at this
      exact ⟨c, b0, b1, h0, h1, l0, l1, by omega⟩
    · omega
    · omega
  · intro h
    have := fs_num v hi lo b h.c h.b0 h.b1 h0 h1 l0 l1
    rw [h.al] at this
    have r1 := cut_rng (min (wid v - b).toNat 64) l0 l1
    obtain ⟨e1, e2⟩ := num_inj (hi := fsH v hi b) (lo := fsL v lo b) (yi := hi) (yo := lo) r1.1 r1.2 l0 l1 (by omega)
    unfold pchk
    rw [if_pos h.c, if_neg (by have := h.b0; have := h.b1; omega), if_pos (by simp [eqA, e1, e2])]
/-- All addresses of a kind. -/
def top (v : Bool) : Int := 2 ^ (wid v).toNat
theorem top_amt (v : Bool) (b : Int) (b0 : 0 ≤ b) (b1 : b ≤ wid v) : top v = amt v b * 2 ^ b.toNat := by
  unfold top amt
  rw [← Int.pow_add]
  congr 1
  omega
theorem num_top {v : Bool} {hi lo : Int} (c : chk v hi lo = 0) (h0 : 0 ≤ hi) (h1 : hi < 18446744073709551616) (l0 : 0 ≤ lo) (l1 : lo < 18446744073709551616) : 0 ≤ num hi lo ∧ num hi lo < top v := by
  unfold num
  rcases chk_cases v hi lo with ⟨_, h⟩ | h
  · cases v
    · simp at h
      have : top false = 4294967296 := by decide
      omega
    · have : top true = 340282366920938463463374607431768211456 := by decide
      omega
  · omega
theorem chk_top {v : Bool} {hi lo : Int} (h0 : 0 ≤ hi) (l0 : 0 ≤ lo) (h : num hi lo < top v) : chk v hi lo = 0 := by
  unfold chk
  rw [if_neg]
  intro ⟨e, h'⟩
  subst e
  have : top false = 4294967296 := by decide
  unfold num at h
  omega
/-- Of multiples one stands a whole step ahead of another one. -/
theorem step_le {a x m : Int} (ha : 0 < a) (hx : x % a = 0) (hm : m % a = 0) (h : x < m) : x + a ≤ m := by
  obtain ⟨k, rfl⟩ := Int.dvd_of_emod_eq_zero hx
  obtain ⟨j, rfl⟩ := Int.dvd_of_emod_eq_zero hm
  have : k < j := Int.lt_of_mul_lt_mul_left h (by omega)
  have h2 : a * (k + 1) ≤ a * j := Int.mul_le_mul_of_nonneg_left (by omega) (by omega)
  rw [Int.mul_add] at h2
  omega

/-- The last address. -/
theorem la_num {v : Bool} {hi lo b : Int} (r : Right v hi lo b) :
    num (laH v hi b) (laL v lo b) = num hi lo + amt v b - 1 ∧ chk v (laH v hi b) (laL v lo b) = 0 ∧ (0 ≤ laH v hi b ∧ laH v hi b < 18446744073709551616) ∧ (0 ≤ laL v lo b ∧ laL v lo b < 18446744073709551616) := by
  have hw : wid v ≤ 128 := by unfold wid; split <;> omega
  have b0 := r.b0
  have b1 := r.b1
  have e := fs_num v hi lo b r.c r.b0 r.b1 r.h0 r.h1 r.l0 r.l1
  rw [r.al] at e
  have m := mask_num (wid v - b) (by omega) (by omega)
  have e2 : num (laH v hi b) (laL v lo b) = num hi lo + amt v b - 1 := by
    unfold laH laL amt
    have : num (fsH v hi b + mask (wid v - b - 64)) (fsL v lo b + mask (wid v - b)) = num (fsH v hi b) (fsL v lo b) + num (mask (wid v - b - 64)) (mask (wid v - b)) := by unfold num; omega
    omega
  have g1 := laH_lt (v := v) (b := b) r.h0 r.h1
  have g2 := laL_lt (v := v) (b := b) r.l0 r.l1
  refine ⟨e2, chk_top g1.1 g2.1 ?_, g1, g2⟩
  have nt := num_top r.c r.h0 r.h1 r.l0 r.l1
  have := step_le (amt_pos v b) r.al (m := top v) (by rw [top_amt v b r.b0 r.b1]; exact Int.mul_emod_right _ _) nt.2
  omega

/-- Has a prefix another one? By numbers. -/
theorem has_num {v : Bool} {hi lo b : Int} {u : Bool} {yi yo c : Int} (r : Right v hi lo b) (q : Right u yi yo c) :
    hasB v hi lo b u yi yo c = true ↔ b ≤ c ∧ u = v ∧ num hi lo ≤ num yi yo ∧ num yi yo < num hi lo + amt v b := by
  unfold hasB
  by_cases hbc : b ≤ c
  · have hb1 : b ≤ wid u := by have := q.b1; omega
    have e := fs_num u yi yo b q.c r.b0 hb1 q.h0 q.h1 q.l0 q.l1
    have k1 := cut_rng (min (wid u - b).toNat 64) q.l0 q.l1
    have ap := amt_pos u b
    have g0 := Int.emod_nonneg (num yi yo) (show amt u b ≠ 0 by omega)
    have g1 := Int.emod_lt_of_pos (num yi yo) ap
    have ral := r.al
    simp only [hbc, decide_true, Bool.true_and, eqA, Bool.and_eq_true, beq_iff_eq, true_and]
    constructor
    · rintro ⟨rfl, e1, e2⟩
      rw [e1, e2] at e
      exact ⟨rfl, by omega, by omega⟩
    · rintro ⟨rfl, n1, n2⟩
      refine ⟨rfl, ?_⟩
      have hz : num (fsH u yi b) (fsL u yo b) = num hi lo := by
        rw [e]
        have hm : (num yi yo - num yi yo % amt u b) % amt u b = 0 := by
          have := Int.emod_add_mul_ediv (num yi yo) (amt u b)
          rw [show num yi yo - num yi yo % amt u b = amt u b * (num yi yo / amt u b) by omega]
          exact Int.mul_emod_right _ _
        by_cases h1 : num hi lo < num yi yo - num yi yo % amt u b
        · have := step_le ap ral hm h1; omega
        · by_cases h2 : num yi yo - num yi yo % amt u b < num hi lo
          · have := step_le ap hm ral h2; omega
          · omega
      exact num_inj k1.1 k1.2 r.l0 r.l1 hz
  · simp [hbc]
end Go.Proofs.YtghbonlignmdoaaGreatDoor
