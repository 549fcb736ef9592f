/- The document on tables: PrefixAhead, CheckTable. -/
import Derived.Test.YthbpldmebekgoaaTbF
import Derived.Test.YthbpldmebekgoaaSlC
set_option linter.unusedVariables false
set_option linter.unusedSimpArgs false
namespace Go.Proofs.Ythbpldmebekgoaa
open Go.RowKit

theorem rahead_any (v : Bool) (hi lo : Nat) (b : Int) (u : Bool) (yi yo : Nat) (c : Int) (w : World) (r : Right v hi lo b) (q : Right u yi yo c) :
    Calls Try.prog 20 #[.agg #[.bool v, .int .u64 hi, .int .u64 lo, .int .i64 b], .agg #[.bool u, .int .u64 yi, .int .u64 yo, .int .i64 c]] w fun e w' =>
      e = .returned (.bool (if eqA v hi lo u yi yo = true then decide (b < c) else (if v = u then lsB hi lo yi yo else u))) ∧ Below w.heap.size w w' := by
  have h1 := r.h1
  have l1 := r.l1
  have h2 := q.h1
  have l2 := q.l1
  have hI : Hid (∀ w : World, Calls Try.prog 33 #[.agg #[.bool v, .int .u64 (hi : Int), .int .u64 (lo : Int)], .agg #[.bool u, .int .u64 (yi : Int), .int .u64 (yo : Int)]] w fun e w' =>
      e = .returned (.bool (if v = u then lsB hi lo yi yo else u)) ∧ Below w.heap.size w w') := fun w => isAhead_any v u hi lo yi yo w (by omega) (by omega) (by omega) (by omega) (right_nat r.c) (right_nat q.c)
  have P0 := Has4.alloc (Has4.new w v hi lo b 37) (.cells #[.bool u, .int .u64 (yi : Int), .int .u64 (yo : Int), .int .i64 c] 37)
  have hq := neq_addr v hi lo u yi yo
  have HB := Lib.hid (bal (bal (Below.refl w.heap.size w) (.cells #[.bool v, .int .u64 (hi : Int), .int .u64 (lo : Int), .int .i64 b] 37)) (.cells #[.bool u, .int .u64 (yi : Int), .int .u64 (yo : Int), .int .i64 c] 37))
  generalize (if v = u then lsB hi lo yi yo else u) = x at *
  generalize (hi : Int) = hi at *
  generalize (lo : Int) = lo at *
  generalize (yi : Int) = yi at *
  generalize (yo : Int) = yo at *
  clear r q h1 l1 h2 l2 P0
  cases he : eqA v hi lo u yi yo
  · rw [he] at hq
    simp only [Bool.not_false] at hq
    simp only [Bool.false_eq_true, if_false]
    clear he
    go_enter Try.func20, Try.ntmps20
    go_wp2_with fail
    refine (hI.out _).mono ?_
    rintro e w2 ⟨rfl, hb⟩
    replace HB := Lib.hid (btr HB.out hb)
    clear hb
    go_wp2
    go_ret
    exact ⟨rfl, HB.out⟩
  · rw [he] at hq
    simp only [Bool.not_true] at hq
    simp only [if_true]
    clear he
    by_cases hbc : b < c
    all_goals
      go_enter Try.func20, Try.ntmps20
      go_wp2
      go_ret
      exact ⟨by simp [hbc], HB.out⟩

theorem ahead_cmp {v : Bool} {hi lo b : Int} {u : Bool} {yi yo c : Int} (r : Right v hi lo b) (q : Right u yi yo c) : (if eqA v hi lo u yi yo = true then decide (b < c) else (if v = u then lsB hi lo yi yo else u)) = decide (cmpP v hi lo b u yi yo c < 0) := by
  have e0 := (less_num ⟨r.l0, r.l1⟩ ⟨q.l0, q.l1⟩ r.c q.c).1
  have e1 := (less_num ⟨r.l0, r.l1⟩ ⟨q.l0, q.l1⟩ r.c q.c).2
  have e2 := (less_num ⟨q.l0, q.l1⟩ ⟨r.l0, r.l1⟩ q.c r.c).2
  have e3 : (if v = u then lsB hi lo yi yo else u) = lessB v hi lo u yi yo := by rw [lessB, if_pos e0]
  rw [e3]
  unfold cmpP
  by_cases he : eqA v hi lo u yi yo = true
  · rw [if_pos he]
    obtain ⟨rfl, rfl, rfl⟩ : v = u ∧ hi = yi ∧ lo = yo := by simpa [eqA, and_assoc] using he
    have h1 : ¬ (lessB v hi lo v hi lo = true) := by rw [e1]; cases v <;> simp
    rw [if_neg h1, if_neg h1]
    unfold cmpN
    by_cases hbc : b < c
    · simp [hbc]
    · simp only [hbc, if_false]; split <;> simp
  · rw [if_neg he]
    cases h1 : lessB v hi lo u yi yo
    · cases h2 : lessB u yi yo v hi lo
      · exfalso
        have h1' : ¬ (lessB v hi lo u yi yo = true) := by rw [h1]; decide
        have h2' : ¬ (lessB u yi yo v hi lo = true) := by rw [h2]; decide
        rw [e1] at h1'
        rw [e2] at h2'
        have huv : v = u := by cases v <;> cases u <;> simp at h1' h2' ⊢
        subst huv
        have hn : num hi lo = num yi yo := by simp at h1' h2'; omega
        obtain ⟨x, y⟩ := num_inj r.l0 r.l1 q.l0 q.l1 hn
        exact he (by simp [eqA, x, y])
      · simp
    · simp
end Go.Proofs.Ythbpldmebekgoaa
