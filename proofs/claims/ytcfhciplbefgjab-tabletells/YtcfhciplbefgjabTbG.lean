/- The document on tables: PrefixAhead, CheckTable. -/
import Derived.Test.YtcfhciplbefgjabTbF
import Derived.Test.YtcfhciplbefgjabSlC
set_option linter.unusedVariables false
set_option linter.unusedSimpArgs false
namespace Go.Proofs.Ytcfhciplbefgjab
open Go.RowKit

theorem rahead_any (v : Bool) (hi lo : Nat) (b : Int) (u : Bool) (yi yo : Nat) (c : Int) (w : World) (r : Right v hi lo b) (q : Right u yi yo c) :
    Calls Try.prog 42 #[.agg #[.bool v, .int .u64 hi, .int .u64 lo, .int .i64 b], .agg #[.bool u, .int .u64 yi, .int .u64 yo, .int .i64 c]] w fun e w' =>
      e = .returned (.bool (if eqA v hi lo u yi yo = true then decide (b < c) else (if v = u then lsB hi lo yi yo else u))) ∧ Below w.heap.size w w' := by
  have h1 := r.h1
  have l1 := r.l1
  have h2 := q.h1
  have l2 := q.l1
  have hI : Hid (∀ w : World, Calls Try.prog 62 #[.agg #[.bool v, .int .u64 (hi : Int), .int .u64 (lo : Int)], .agg #[.bool u, .int .u64 (yi : Int), .int .u64 (yo : Int)]] w fun e w' =>
      e = .returned (.bool (if v = u then lsB hi lo yi yo else u)) ∧ Below w.heap.size w w') := fun w => isAhead_any v u hi lo yi yo w (by omega) (by omega) (by omega) (by omega) (right_nat r.c) (right_nat q.c)
  have P0 := Has4.alloc (Has4.new w v hi lo b 27) (.cells #[.bool u, .int .u64 (yi : Int), .int .u64 (yo : Int), .int .i64 c] 27)
  have hq := neq_addr v hi lo u yi yo
  have HB := Lib.hid (bal (bal (Below.refl w.heap.size w) (.cells #[.bool v, .int .u64 (hi : Int), .int .u64 (lo : Int), .int .i64 b] 27)) (.cells #[.bool u, .int .u64 (yi : Int), .int .u64 (yo : Int), .int .i64 c] 27))
  generalize (if v = u then lsB hi lo yi yo else u) = x at *
  generalize (hi : Int) = hi at *
  generalize (lo : Int) = lo at *
  generalize (yi : Int) = yi at *
  generalize (yo : Int) = yo at *
  clear r q h1 l1 h2 l2 P0
  cases he : eqA v hi lo u yi yo
  · rw [he] at hq
    simp only [Bool.not_false] at hq
    simp only [Bool.false_eq_true, if_false]
    clear he
    go_enter Try.func42, Try.ntmps42
    go_wp2_with fail
    refine (hI.out _).mono ?_
    rintro e w2 ⟨rfl, hb⟩
    replace HB := Lib.hid (btr HB.out hb)
    clear hb
    go_wp2
    go_ret
    exact ⟨rfl, HB.out⟩
  · rw [he] at hq
    simp only [Bool.not_true] at hq
    simp only [if_true]
    clear he
    by_cases hbc : b < c
    all_goals
      go_enter Try.func42, Try.ntmps42
      go_wp2
      go_ret
      exact ⟨by simp [hbc], HB.out⟩

theorem cmp_zero {v : Bool} {hi lo b : Int} {u : Bool} {yi yo c : Int} (r : Right v hi lo b) (q : Right u yi yo c) : cmpP v hi lo b u yi yo c = 0 ↔ v = u ∧ hi = yi ∧ lo = yo ∧ b = c := by
  have e1 := (less_num ⟨r.l0, r.l1⟩ ⟨q.l0, q.l1⟩ r.c q.c).2
  have e2 := (less_num ⟨q.l0, q.l1⟩ ⟨r.l0, r.l1⟩ q.c r.c).2
  unfold cmpP
  constructor
  · intro h
    split at h
    · exact absurd h (by decide)
    · rename_i h1
      split at h
      · exact absurd h (by decide)
      · rename_i h2
        rw [e1] at h1
        rw [e2] at h2
        have hbc : b = c := by unfold cmpN at h; split at h <;> (try split at h) <;> omega
        have huv : v = u := by
          cases v <;> cases u <;> simp at h1 h2 ⊢
        subst huv
        have hn : num hi lo = num yi yo := by simp at h1 h2; omega
        obtain ⟨x, y⟩ := num_inj r.l0 r.l1 q.l0 q.l1 hn
        exact ⟨rfl, x, y, hbc⟩
  · rintro ⟨rfl, rfl, rfl, rfl⟩
    have h1 : ¬ (lessB v hi lo v hi lo = true) := by rw [e1]; cases v <;> simp
    rw [if_neg h1, if_neg h1]
    simp [cmpN]
/-- What stands ahead, and which way around. -/
theorem cmp_turn {v : Bool} {hi lo b : Int} {u : Bool} {yi yo c : Int} (r : Right v hi lo b) (q : Right u yi yo c) : 0 < cmpP v hi lo b u yi yo c ↔ cmpP u yi yo c v hi lo b < 0 := by
  have e1 := (less_num ⟨r.l0, r.l1⟩ ⟨q.l0, q.l1⟩ r.c q.c).2
  have e2 := (less_num ⟨q.l0, q.l1⟩ ⟨r.l0, r.l1⟩ q.c r.c).2
  unfold cmpP
  cases h1 : lessB v hi lo u yi yo <;> cases h2 : lessB u yi yo v hi lo
  · simp only [Bool.false_eq_true, if_false]
    unfold cmpN
    split <;> split <;> (try split) <;> omega
  · simp
  · simp
  · rw [e1] at h1; rw [e2] at h2
    rcases h1 with ⟨rfl, h1⟩ | ⟨rfl, rfl⟩
    · rcases h2 with ⟨_, h2⟩ | ⟨h2, h3⟩
      · omega
      · rw [h2] at h3; exact absurd h3 (by decide)
    · rcases h2 with ⟨h2, _⟩ | ⟨h2, _⟩ <;> exact absurd h2 (by decide)
theorem ahead_cmp {v : Bool} {hi lo b : Int} {u : Bool} {yi yo c : Int} (r : Right v hi lo b) (q : Right u yi yo c) : (if eqA v hi lo u yi yo = true then decide (b < c) else (if v = u then lsB hi lo yi yo else u)) = decide (cmpP v hi lo b u yi yo c < 0) := by
  have e0 := (less_num ⟨r.l0, r.l1⟩ ⟨q.l0, q.l1⟩ r.c q.c).1
  have e1 := (less_num ⟨r.l0, r.l1⟩ ⟨q.l0, q.l1⟩ r.c q.c).2
  have e2 := (less_num ⟨q.l0, q.l1⟩ ⟨r.l0, r.l1⟩ q.c r.c).2
  have e3 : (if v = u then lsB hi lo yi yo else u) = lessB v hi lo u yi yo := by rw [lessB, if_pos e0]
  rw [e3]
  unfold cmpP
  by_cases he : eqA v hi lo u yi yo = true
  · rw [if_pos he]
    obtain ⟨rfl, rfl, rfl⟩ : v = u ∧ hi = yi ∧ lo = yo := by simpa [eqA, and_assoc] using he
    have h1 : ¬ (lessB v hi lo v hi lo = true) := by rw [e1]; cases v <;> simp
    rw [if_neg h1, if_neg h1]
    unfold cmpN
    by_cases hbc : b < c
    · simp [hbc]
    · simp only [hbc, if_false]; split <;> simp
  · rw [if_neg he]
    cases h1 : lessB v hi lo u yi yo
    · cases h2 : lessB u yi yo v hi lo
      · exfalso
        have h1' : ¬ (lessB v hi lo u yi yo = true) := by rw [h1]; decide
        have h2' : ¬ (lessB u yi yo v hi lo = true) := by rw [h2]; decide
        rw [e1] at h1'
        rw [e2] at h2'
        have huv : v = u := by cases v <;> cases u <;> simp at h1' h2' ⊢
        subst huv
        have hn : num hi lo = num yi yo := by simp at h1' h2'; omega
        obtain ⟨x, y⟩ := num_inj r.l0 r.l1 q.l0 q.l1 hn
        exact he (by simp [eqA, x, y])
      · simp
    · simp
end Go.Proofs.Ytcfhciplbefgjab
